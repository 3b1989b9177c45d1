package lots_test

import (
	"testing"

	"acrospire/api"
	"acrospire/lots"
)

func TestLots(t *testing.T) {
	b := lots.New()
	for want := range 10 {
		if n := b.Lots(); n != want {
			t.Errorf("Lots = %d, want %d", n, want)
		}
		receive(t, b, 5)
	}
	ship(t, b, 0, 5)
	blend(t, b, part(1, 5))
	if n := b.Lots(); n != 11 {
		t.Errorf("Lots = %d", n)
	}
}

func TestMass(t *testing.T) {
	b := example(t)
	ship(t, b, 2, 7)
	discard(t, b, 2, 11)
	if made, left, shipped, discarded, e := b.Mass(2); made != 50 || left != 12 || shipped != 7 || discarded != 11 || e != api.OK {
		t.Errorf("Mass = %d, %d, %d, %d, %d", made, left, shipped, discarded, e)
	}
}

func TestParts(t *testing.T) {
	b := example(t)
	for origin := range 2 {
		if list, e := b.Parts(origin); len(list) != 0 || e != api.OK {
			t.Errorf("Parts(%d) = %v, %d", origin, list, e)
		}
	}
	// What is taken from a lot later does not matter to its parts.
	ship(t, b, 3, 50)
	for range 2 {
		list, e := b.Parts(3)
		if len(list) != 2 || list[0] != part(2, 20) || list[1] != part(0, 30) || e != api.OK {
			t.Errorf("Parts = %v, %d", list, e)
		}
		clear(list)
	}
}

func TestMassAndPartsOfNoLot(t *testing.T) {
	for _, b := range []*lots.Book{lots.New(), example(t)} {
		for _, number := range noLots(b) {
			if made, left, shipped, discarded, e := b.Mass(number); made != 0 || left != 0 || shipped != 0 || discarded != 0 || e != api.ErrNone {
				t.Errorf("Mass(%d) = %d, %d, %d, %d, %d", number, made, left, shipped, discarded, e)
			}
			if list, e := b.Parts(number); len(list) != 0 || e != api.ErrNone {
				t.Errorf("Parts(%d) = %v, %d", number, list, e)
			}
		}
	}
	b := full(t)
	if _, _, _, _, e := b.Mass(256); e != api.ErrNone {
		t.Errorf("Mass(256): %d", e)
	}
	if _, e := b.Parts(256); e != api.ErrNone {
		t.Errorf("Parts(256): %d", e)
	}
}

func TestMassAndPartsOfUnusableBook(t *testing.T) {
	for name, b := range unusable() {
		for _, number := range []int{0, -1, 1, 256} {
			if made, left, shipped, discarded, e := b.Mass(number); made != 0 || left != 0 || shipped != 0 || discarded != 0 || e != api.ErrUnusable {
				t.Errorf("%s: Mass = %d, %d, %d, %d, %d", name, made, left, shipped, discarded, e)
			}
			if list, e := b.Parts(number); len(list) != 0 || e != api.ErrUnusable {
				t.Errorf("%s: Parts = %v, %d", name, list, e)
			}
		}
	}
}
