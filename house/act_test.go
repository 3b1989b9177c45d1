package house_test

import (
	"fmt"
	"strings"
	"testing"

	"acrospire/api"
)

// filled returns lines, each followed by its answer: a lot in bed 0, an entry, a letter, and readings.
func filled() []string {
	return []string{
		"receive 50", "lot 0", "charge 0 0 20", "lot 1", "steep 0 1300", "rest 0", "put 0 k v", "ok", "send 0 1", "ok", "read 0", "spread 1000",
	}
}

// Lines with all the acts, each of which can be performed in this order.
var allActs = []string{
	"receive 50", "blend 0 5 0 1", "ship 0 1", "discard 1 1", "charge 0 0 20", "steep 0 1300", "turn 0", "read 0", "tick 1",
	"cook 0 100 emit 3;emit 0", "empty 0", "put 0 k v", "remove 0 k", "send 0 1", "repeat 0", "deliver 0", "send 0 1", "lose 0", "save", "crash 1 2",
}

// P11.2
func TestActsAreStored(t *testing.T) {
	x := begin(t)
	for i, line := range allActs {
		if _, e := x.Do(line); e != api.OK {
			t.Fatalf("Do(%q): %d", line, e)
		}
		want := min(i+1, len(allActs)-2) // without save and crash
		if x.Acts() != want || x.Room() != 100-want {
			t.Errorf("after %q: %d acts, room %d", line, x.Acts(), x.Room())
		}
	}
}

// P11.2
func TestWrongLines(t *testing.T) {
	x := begin(t)
	mustSay(t, x, filled()...)
	wrong := []string{
		"", " ", "nothing", "nothing 1", "Receive 5", "RECEIVE 5", "receive5", "receives 5", "5", "\n", "\x00", "ok", "lot 1", "error",
		"receive", "receive ", "receive  5", " receive 5", "receive 5 ", "receive 5 5", "receive x", "receive\t5", "receive 5\n", "receive 5\r",
		"receive 05", "receive 00", "receive +5", "receive -5", "receive -0", "receive 5.0", "receive 0x5", "receive 1_0", "receive 5e1", "receive ٥",
		"receive 9223372036854775808", "receive 99999999999999999999", "blend", "blend ", "blend 0", "blend 0 5 0", "blend 0 5 x", "blend 0 5  0 5",
		"blend 0 5 0 5 0", "blend 0 5 0 x", "ship 0", "ship 0 1 1", "ship", "ship 0 x", "discard 0", "discard 0 1 1", "charge 1 0", "charge 1 0 5 5",
		"charge 1", "steep 0", "steep 0 5 5", "steep 0 -5", "turn", "turn 0 0", "turn x", "read", "read 0 0", "empty", "empty 0 0", "tick", "tick 1 1",
		"tick -1", "cook", "cook 0", "cook 0 100", "cook 0 100 ", "cook 0  emit 1", "cook 0 x emit 1", "cook x 100 emit 1", "cook 0 -1 emit 1",
		"cook 0 9223372036854775808 #", "put 0", "put 0 k", "put 0 k ", "put 0  v", "put 0 k v v", "put 0 k v ", "put 0 k  v", "put 0 k\x7f v",
		"put 0 k v\x1f", "put 0 k v\n", "put 0 k\t v", "put 0 k é", "put 0 \x80 v", "put k v", "put x k v", "remove 0", "remove 0 ", "remove 0 k k",
		"remove 0 \x00", "remove 0 \xff", "send 0", "send 0 1 2", "send 0 x", "lose", "lose 0 0", "lose x", "deliver", "deliver 0 0", "repeat", "repeat 0 0",
		"save 1", "save ", " save", "save\n", "saved", "crash x", "crash ", "crash  1", "crash 1 ", "crash -1", "crash 01", "crash 1 x", "crashes",
		"crash 9223372036854775808",
	}
	mustRefuse(t, x, api.ErrSyntax, wrong...)
}

// P11.2
func TestLinesHaveALength(t *testing.T) {
	x := begin(t)
	mustSay(t, x, filled()...)
	recipe := func(length int) string {
		return "cook 0 99 " + strings.Repeat("#", length-len("cook 0 99 "))
	}
	token := func(length int) string {
		return "put 0 " + strings.Repeat("k", 20) + " " + strings.Repeat("v", length-27)
	}
	list := func(length int) string {
		return "crash" + strings.Repeat(" 1", 28) + strings.Repeat("1", length-61)
	}
	blanks := func(length int) string {
		return "cook 0 99" + strings.Repeat(" ", length-len("cook 0 99"))
	}
	for _, long := range []func(length int) string{recipe, token, list, blanks} {
		if got := len(long(64)); got != 64 {
			t.Fatalf("%d bytes", got)
		}
		mustRefuse(t, x, api.ErrSyntax, long(65), long(66), long(100), long(10000))
		if answer, e := x.Do(long(64)); e != api.OK {
			t.Errorf("Do(%q) = %q, %d", long(64), answer, e)
		}
		mustSay(t, x, "save", fmt.Sprint("saved ", x.Acts()))
	}
	mustRefuse(t, x, api.ErrSyntax, "receive 5"+strings.Repeat(" ", 60), "receive "+strings.Repeat("1", 57), strings.Repeat("x", 65))
}

// P11.2
func TestNumbersAndTokens(t *testing.T) {
	x := begin(t)
	mustSay(t, x, "receive 1099511627776", "lot 0", "charge 0 0 7", "lot 1", "steep 0 9223372036854775807", fmt.Sprint("rest ", 1<<63-1-3000))
	mustSay(t, x, "steep 0 0", "rest 0", "put 0 !~ ~!", "ok", "put 0 0 00", "ok", "put 0 -1 +5", "ok", "remove 0 99999999999999999999", "ok")
	mustRefuse(t, x, api.ErrArg, "receive 9223372036854775807", "receive 0")
	mustSay(t, x, "crash 9223372036854775807 0", "recovered 0")
}

// P11.2
func TestNoRoom(t *testing.T) {
	x := mustNew(t, plant(2, 3, 6))
	mustSay(t, x, filled()...)
	if x.Room() != 0 {
		t.Fatalf("room for %d", x.Room())
	}
	mustRefuse(t, x, api.ErrFull, "receive 0", "ship 99 0", "charge 0 0 5", "charge 9 0 5", "turn 1", "tick 0", "cook 0 9999999 emit", "put 9 k v", "lose 9")
	for _, line := range allActs[:len(allActs)-2] {
		mustRefuse(t, x, api.ErrFull, line)
	}
	mustRefuse(t, x, api.ErrSyntax, "nothing", "receive", "receive 05", "save 1", "put 0 k", "receive 5"+strings.Repeat(" ", 60))
	mustSay(t, x, "save", "saved 6", "crash 0", "recovered 6", "save", "saved 6", "Save", "error 4", "receive 5", "error 5")
	if x.Room() != 0 || x.Acts() != 6 {
		t.Errorf("%d acts, room %d", x.Acts(), x.Room())
	}
}

// P11.2, P11.6
func TestCrashMakesRoom(t *testing.T) {
	x := mustNew(t, plant(2, 3, 2))
	mustSay(t, x, "receive 1", "lot 0", "save", "saved 1", "receive 2", "lot 1", "receive 3", "error 5", "crash", "recovered 1", "receive 4", "lot 1", "receive 5", "error 5")
	mustSay(t, x, "save", "saved 2", "crash", "recovered 2", "receive 6", "error 5")
	if made, _, _, _, _ := x.Book().Mass(1); made != 4 {
		t.Errorf("lot 1 has %d", made)
	}
}
