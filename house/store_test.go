package house_test

import (
	"fmt"
	"testing"

	"acrospire/api"
)

// P11.6
func TestSave(t *testing.T) {
	x := begin(t)
	mustSay(t, x, "save", "saved 0", "receive 50", "lot 0", "save", "saved 1", "save", "saved 1", "tick 1", "lost", "tick 1", "lost", "save", "saved 3")
	if x.Acts() != 3 || x.Room() != 97 || x.Time() != 2 {
		t.Errorf("%d acts, room %d, time %d", x.Acts(), x.Room(), x.Time())
	}
}

// P11.6
func TestCrashWithoutSave(t *testing.T) {
	x := begin(t)
	empty := x.Text()
	mustSay(t, x, "crash", "recovered 0")
	mustSay(t, x, filled()...)
	for _, line := range []string{"crash", "crash 0", "crash 1", "crash 1 2 3", "crash 9223372036854775807"} {
		mustSay(t, x, line, "recovered 0")
		if x.Text() != empty || x.Acts() != 0 || x.Room() != 100 {
			t.Errorf("after %q: %d acts, room %d,\n%s", line, x.Acts(), x.Room(), x.Text())
		}
		mustSay(t, x, filled()...)
	}
}

// P11.6
func TestCrashAfterSave(t *testing.T) {
	for _, line := range []string{"crash", "crash 0", "crash 1 2", "crash 9223372036854775807 0 1"} {
		x := begin(t)
		mustSay(t, x, filled()...)
		mustSay(t, x, "tick 7", "lost 0", "receive 0", "error 2", "save", "saved 7")
		text := x.Text()
		mustSay(t, x, "receive 8", "lot 2", "empty 0", "lot 1", "tick 3", "lost", "put 2 k w", "ok", "lose 0", "ok", line, "recovered 7")
		if x.Text() != text || x.Acts() != 7 || x.Room() != 93 || x.Time() != 7 {
			t.Errorf("after %q: %d acts, room %d, time %d,\n%swant\n%s", line, x.Acts(), x.Room(), x.Time(), x.Text(), text)
		}
		mustSay(t, x, line, "recovered 7", "receive 8", "lot 2", "charge 0 2 1", "error 111", "deliver 0", "ok", "save", "saved 9")
		text = x.Text()
		mustSay(t, x, "steep 0 1", "rest 0", "crash", "recovered 9", "save", "saved 9", "crash", "recovered 9")
		if x.Text() != text {
			t.Errorf("after two saves Text is\n%swant\n%s", x.Text(), text)
		}
	}
}

// P11.6: the acts are performed again in the order in which they were performed, however many
// there are, also when there is no room left.
func TestCrashOfAFullHouse(t *testing.T) {
	h := plant(1, 2, 0)
	h.Pages = 16384
	x := mustNew(t, h)
	for number := range 1023 {
		mustSay(t, x, fmt.Sprint("put 0 k ", number), "ok")
	}
	mustRefuse(t, x, api.ErrFull, "put 0 k v")
	mustSay(t, x, "save", "saved 1023")
	text := x.Text()
	mustSay(t, x, "crash 3", "recovered 1023", "put 0 k v", "error 5")
	if x.Text() != text || x.Room() != 0 {
		t.Errorf("room %d, Text is\n%swant\n%s", x.Room(), x.Text(), text)
	}
	mustHaveValues(t, x, 0, "k", "1022")
}

// P11.6: lines that are stored may contain whatever a recipe contains.
func TestCrashWithAnyRecipe(t *testing.T) {
	x := begin(t)
	mustSay(t, x, "receive 50", "lot 0", "charge 0 0 20", "lot 1", "steep 0 1300", "rest 0")
	for _, line := range []string{"cook 0 99 #\x00\xff", "cook 0 99 emit 3\nemit 0\n", "cook 0 99  ;; emit 2 ;emit  3", "cook 0 1  ", "cook 0 99 #é;;emit 1;emit 1"} {
		if _, e := x.Do(line); e != api.OK {
			t.Errorf("Do(%q): %d", line, e)
		}
	}
	mustSay(t, x, "save", "saved 8")
	text := x.Text()
	mustSay(t, x, "turn 0", "ok", "crash", "recovered 8")
	if x.Text() != text {
		t.Errorf("Text is\n%swant\n%s", x.Text(), text)
	}
}
