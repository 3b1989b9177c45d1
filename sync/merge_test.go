package sync_test

import (
	"math/rand"
	"strconv"
	"testing"

	"acrospire/sync"
)

func TestMerge(t *testing.T) {
	a, b := mustPut(t, sync.Table{}, 0, "k", "x"), mustPut(t, sync.Table{}, 1, "k", "y")
	m := sync.Merge(a, b)
	mustHave(t, m, seen(1, 1), entry("k", "x", 0, 1), entry("k", "y", 1, 1))
	z := mustPut(t, m, 0, "k", "z")
	for _, old := range []sync.Table{a, b, m, z, {}} {
		mustHave(t, sync.Merge(z, old), seen(2, 1), entry("k", "z", 0, 2))
		mustHave(t, sync.Merge(old, z), seen(2, 1), entry("k", "z", 0, 2))
	}
	mustHave(t, sync.Merge(sync.Table{}, sync.Table{}), seen())
	mustHave(t, sync.Merge(sync.Table{}, a), seen(1), entry("k", "x", 0, 1))
	mustHave(t, a, seen(1), entry("k", "x", 0, 1))
	mustHave(t, b, seen(0, 1), entry("k", "y", 1, 1))
}

func TestMergeOfRemovals(t *testing.T) {
	a := mustPut(t, mustPut(t, sync.Table{}, 0, "k", "x"), 0, "j", "y")
	x, y := entry("k", "x", 0, 1), entry("j", "y", 0, 2)
	mustHave(t, sync.Merge(a, a.Remove("k")), seen(2), y)
	mustHave(t, sync.Merge(a.Remove("k"), a), seen(2), y)
	mustHave(t, sync.Merge(a.Remove("k"), a.Remove("j")), seen(2))
	// A write that the remover had not seen stays.
	b := mustPut(t, a, 1, "k", "z")
	mustHave(t, sync.Merge(a.Remove("k"), b), seen(2, 1), y, entry("k", "z", 1, 1))
	// What was replaced at one site and removed at another one does not come back.
	mustHave(t, sync.Merge(sync.Merge(a.Remove("k"), b), a), seen(2, 1), y, entry("k", "z", 1, 1))
	// A table that has not seen the second write neither keeps nor removes it.
	first := mustPut(t, sync.Table{}, 0, "k", "x")
	mustHave(t, sync.Merge(first, a), seen(2), y, x)
	mustHave(t, sync.Merge(first.Remove("k"), a), seen(2), y)
}

func TestMergeOfDifferentWritesWithOneDot(t *testing.T) {
	base := mustPut(t, sync.Table{}, 1, "j", "stays")
	stays := entry("j", "stays", 1, 1)
	x, y := mustPut(t, base, 0, "k", "x"), mustPut(t, base, 0, "k", "y")
	other := mustPut(t, base, 0, "l", "x")
	for _, tables := range [][2]sync.Table{{x, y}, {x, other}, {y, other}} {
		a, b := tables[0], tables[1]
		mustHave(t, sync.Merge(a, b), seen(1, 1), stays)
		mustHave(t, sync.Merge(b, a), seen(1, 1), stays)
		if sync.Equal(a, b) || sync.Covers(a, b) || sync.Covers(b, a) {
			t.Errorf("%v and %v are the same", a.Entries(), b.Entries())
		}
	}
	mustHave(t, sync.Merge(x, mustPut(t, base, 0, "k", "x")), seen(1, 1), stays, entry("k", "x", 0, 1))
	// The one that has seen more of the site decides.
	mustHave(t, sync.Merge(x, mustPut(t, y, 0, "l", "z")), seen(2, 1), stays, entry("l", "z", 0, 2))
}

func TestMergeIsInOrder(t *testing.T) {
	var odd, even sync.Table
	for i := range 50 {
		odd = mustPut(t, odd, 1, strconv.Itoa(2*i+1), "x")
		even = mustPut(t, even, 0, strconv.Itoa(2*i), "y")
	}
	list := sync.Merge(odd, even).Entries()
	for i := range list[1:] {
		if list[i].Key >= list[i+1].Key {
			t.Fatalf("%v is before %v", list[i], list[i+1])
		}
	}
	if len(list) != 100 {
		t.Errorf("%d entries", len(list))
	}
}

func TestEqual(t *testing.T) {
	a, b := mustPut(t, sync.Table{}, 0, "k", "x"), mustPut(t, sync.Table{}, 1, "k", "x")
	tables := []sync.Table{{}, a, b, sync.Merge(a, b), mustPut(t, a, 0, "k", "x"), a.Remove("k"), b.Remove("k"),
		mustPut(t, sync.Table{}, 0, "k", "y"), mustPut(t, sync.Table{}, 0, "j", "x"), mustPut(t, a, 0, "j", "x").Remove("j"),
		sync.Merge(a, b).Remove("k"), mustPut(t, a.Remove("k"), 0, "k", "x").Remove("k")}
	for i, x := range tables {
		for j, y := range tables {
			if sync.Equal(x, y) != (i == j) {
				t.Errorf("Equal of %v and %v = %t", x.Entries(), y.Entries(), i != j)
			}
		}
	}
	mustBeEqual(t, sync.Table{}, sync.Table{}.Remove("k"))
	mustBeEqual(t, a, mustPut(t, sync.Table{}, 0, "k", "x"))
	mustBeEqual(t, sync.Merge(a, b).Remove("k"), sync.Merge(a.Remove("k"), b.Remove("k")))
}

func TestCovers(t *testing.T) {
	a, b := mustPut(t, sync.Table{}, 0, "k", "x"), mustPut(t, sync.Table{}, 1, "k", "y")
	m := sync.Merge(a, b)
	z := mustPut(t, m, 0, "k", "z")
	for _, c := range []struct {
		one, other sync.Table
		want       bool
	}{{a, a, true}, {sync.Table{}, sync.Table{}, true}, {a, sync.Table{}, true}, {sync.Table{}, a, false},
		{a, b, false}, {m, a, true}, {a, m, false}, {z, m, true}, {m, z, false}, {z, b, true},
		// They have seen the same, but one has removed what the other has.
		{a.Remove("k"), a, true}, {a, a.Remove("k"), false}, {m.Remove("k"), z, false}, {z, m.Remove("k"), true}} {
		if got := sync.Covers(c.one, c.other); got != c.want {
			t.Errorf("Covers of %v and %v = %t", c.one.Entries(), c.other.Entries(), got)
		}
	}
}

func TestEqualAndCoversAreAsTheyShouldBe(t *testing.T) {
	forests(t, 145, func(r *rand.Rand, pairs []pair) {
		for range 300 {
			a, b := pairs[r.Intn(len(pairs))], pairs[r.Intn(len(pairs))]
			if sync.Equal(a.table, b.table) != a.model.equal(b.model) {
				t.Fatalf("Equal of %v and %v = %t", a.model, b.model, !a.model.equal(b.model))
			}
			if covers := a.model.merge(b.model).equal(a.model); sync.Covers(a.table, b.table) != covers {
				t.Fatalf("Covers of %v and %v = %t", a.model, b.model, !covers)
			}
		}
	})
}
