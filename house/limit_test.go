package house

import (
	"slices"
	"testing"

	"acrospire/api"
)

func limited(t *testing.T) *House {
	t.Helper()
	x, e := New(api.House{Beds: 1, Cells: 2, Full: 9, Grain: api.Grain{Num: 1, Den: 4}, Levels: 4, Factor: 10, Sites: 1, Pages: 200})
	if e != api.OK {
		t.Fatalf("New: %d", e)
	}
	return x
}

func mustDo(t *testing.T, x *House, want api.Errno, lines ...string) {
	t.Helper()
	for _, line := range lines {
		text, acts := x.Text(), x.Acts()
		if answer, e := x.Do(line); e != want {
			t.Fatalf("Do(%q) = %q, %d, want %d", line, answer, e, want)
		}
		if want != api.OK && (x.Text() != text || x.Acts() != acts) {
			t.Fatalf("Do(%q) is refused, but changes\n%sto\n%s", line, text, x.Text())
		}
	}
}

// P11.4: so much time cannot go by in a test, so that this one sets the time.
func TestTimeEnds(t *testing.T) {
	x := limited(t)
	mustDo(t, x, api.OK, "receive 5", "charge 0 0 5", "steep 0 9")
	x.time = 1<<40 - 4097
	mustDo(t, x, api.OK, "tick 4096")
	mustDo(t, x, api.ErrFull, "tick 2", "tick 4096")
	mustDo(t, x, api.ErrArg, "tick 0", "tick 4097")
	mustDo(t, x, api.OK, "tick 1", "cook 0 100 emit 1;emit time-1099511627776")
	mustDo(t, x, api.ErrFull, "tick 1", "tick 4096")
	if x.Time() != 1<<40 {
		t.Errorf("time %d", x.Time())
	}
	mustDo(t, x, api.OK, "cook 0 100 emit 2;emit 4096", "turn 0")
}

// P11.4: as many readings cannot be made in a test, so that this one adds them at once.
func TestReadingsEnd(t *testing.T) {
	x := limited(t)
	mustDo(t, x, api.OK, "receive 5", "charge 0 0 5")
	x.digest, _ = x.digest.Add(3, 1<<40-3)
	mustDo(t, x, api.OK, "read 0")
	mustDo(t, x, api.ErrFull, "read 0")
	mustDo(t, x, api.ErrRange, "read 1")
	mustDo(t, x, api.OK, "empty 0")
	mustDo(t, x, api.ErrNone, "read 0")
	if got := x.Digest().Count(); got != 1<<40-1 {
		t.Errorf("%d values", got)
	}
}

// P11.2: the keys and the values of the store cannot be seen from outside.
func TestStoreHasTheLines(t *testing.T) {
	x := limited(t)
	mustDo(t, x, api.OK, "receive 5", "charge 0 0 5", "save", "cook 0 9 emit 3\nemit 0\n", "turn 0", "crash 3", "tick 1")
	mustDo(t, x, api.ErrArg, "tick 0")
	mustDo(t, x, api.OK, "put 0 k v", "save", "steep 0 9")
	mustHaveStored(t, x, "receive 5", "charge 0 0 5", "tick 1", "put 0 k v", "steep 0 9")
	mustDo(t, x, api.OK, "crash")
	mustHaveStored(t, x, "receive 5", "charge 0 0 5", "tick 1", "put 0 k v")
	for range 8 {
		mustDo(t, x, api.OK, "cook 0 1 #")
	}
	mustHaveStored(t, x, "receive 5", "charge 0 0 5", "tick 1", "put 0 k v", "cook 0 1 #", "cook 0 1 #", "cook 0 1 #", "cook 0 1 #",
		"cook 0 1 #", "cook 0 1 #", "cook 0 1 #", "cook 0 1 #")
	mustDo(t, x, api.ErrFull, "cook 0 1 #")
}

func mustHaveStored(t *testing.T, x *House, lines ...string) {
	t.Helper()
	keys := []string{
		"00000000", "00000001", "00000002", "00000003", "00000004", "00000005", "00000006", "00000007", "00000008", "00000009", "00000010", "00000011",
	}
	var want []api.Pair
	for i, line := range lines {
		want = append(want, api.Pair{Key: keys[i], Value: line})
	}
	got, e := x.store.Scan("", "", 1000)
	if e != api.OK || !slices.Equal(got, want) {
		t.Fatalf("the store has %q, %d, want %q", got, e, want)
	}
}

// P11.6: a house never has writes of which a crash could keep some, so that this one writes on
// pages that the store does not need.
func TestCrashKeeps(t *testing.T) {
	for line, want := range map[string][2]byte{"crash": {0, 0}, "crash 0": {0, 0}, "crash 1": {'a', 'a'}, "crash 2 0": {'b', 0}, "crash 0 7": {0, 'b'}} {
		x := limited(t)
		mustDo(t, x, api.OK, "receive 5", "save")
		for _, data := range []string{"a", "b"} {
			x.disk.Write(198, data)
			x.disk.Write(199, data)
		}
		mustDo(t, x, api.OK, line)
		first, _ := x.disk.Read(198)
		second, e := x.disk.Read(199)
		if e != api.OK || first[0] != want[0] || second[0] != want[1] {
			t.Errorf("%s keeps %q and %q, want %q", line, first[0], second[0], want)
		}
	}
}
