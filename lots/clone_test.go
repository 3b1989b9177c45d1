package lots_test

import (
	"math/rand"
	"testing"

	"acrospire/api"
	"acrospire/lots"
)

func TestClone(t *testing.T) {
	for name, b := range map[string]*lots.Book{"new": lots.New(), "example": example(t), "full": full(t)} {
		c := b.Clone()
		if c == nil || c == b {
			t.Fatalf("%s: Clone = %p of %p", name, c, b)
		}
		mustBe(t, c, state(t, b))
	}
	c := example(t).Clone()
	mustShare(t, c, 3, "0:23/25 1:2/25")
	mustExpose(t, c, 1, "50", "0")
	mustSuspect(t, c, numbers(3), numbers(0), 1, 2, 3)
}

// change changes all that can be changed in a book with the lots of the example.
func change(t *testing.T, b *lots.Book) {
	t.Helper()
	ship(t, b, 0, 1)
	discard(t, b, 1, 2)
	blend(t, b, part(3, 3), part(2, 4))
	receive(t, b, 5)
}

func TestClonesAreIndependent(t *testing.T) {
	b := example(t)
	c := b.Clone()
	before := state(t, b)
	change(t, b)
	mustBe(t, c, before)
	d := c.Clone()
	change(t, d)
	mustBe(t, c, before)
	receive(t, c, 77)
	changed := state(t, d)
	mustBe(t, b, changed)
	discard(t, c, 4, 77)
	mustBe(t, b, changed)
	mustBe(t, d, changed)
	// A clone of a book that has room for further lots has room of its own.
	e, f := b.Clone(), b.Clone()
	receive(t, b, 1)
	receive(t, e, 2)
	receive(t, f, 3)
	for mass, k := range []*lots.Book{b, e, f} {
		if made, _, _, _, _ := k.Mass(6); made != mass+1 {
			t.Errorf("book %d: %d", mass, made)
		}
	}
}

func TestCloneOfUnusableBook(t *testing.T) {
	for name, b := range unusable() {
		if c := b.Clone(); c != nil {
			t.Errorf("%s: Clone = %v", name, c)
		}
	}
}

// Clones that see the same acts remain the same, and the others remain what they were.
func TestRandomClones(t *testing.T) {
	r := rand.New(rand.NewSource(94))
	for range 100 {
		w := random(t, r, 20, 20)
		old, was := w.Clone(), state(t, w.Book)
		same := w.Clone()
		for range 20 {
			mass := 1 + r.Intn(20)
			n, e := w.Receive(mass)
			if other, f := same.Receive(mass); n != other || e != f {
				t.Fatalf("Receive(%d) = %d, %d and %d, %d", mass, n, e, other, f)
			}
			list := parts(part(r.Intn(w.Lots()), mass), part(r.Intn(w.Lots()), 3))
			n, e = w.Blend(list)
			if other, f := same.Blend(list); n != other || e != f {
				t.Fatalf("Blend(%v) = %d, %d and %d, %d", list, n, e, other, f)
			}
		}
		mustBe(t, same, state(t, w.Book))
		mustBe(t, old, was)
		if e := old.Ship(old.Lots(), 1); e != api.ErrNone {
			t.Errorf("Ship of the next lot: %d", e)
		}
	}
}
