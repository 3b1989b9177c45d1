package lots_test

import (
	"math/rand"
	"slices"
	"testing"

	"acrospire/api"
	"acrospire/lots"
)

func TestNew(t *testing.T) {
	b := lots.New()
	if b == nil || b.Lots() != 0 {
		t.Fatalf("New = %v, with %d lots", b, b.Lots())
	}
	other := lots.New()
	receive(t, b, 7)
	mustBe(t, other, nil)
}

func TestReceive(t *testing.T) {
	b := lots.New()
	receive(t, b, 100, 1, api.MaxMass, 100)
	mustBe(t, b, model{
		{made: 100, left: 100},
		{made: 1, left: 1},
		{made: api.MaxMass, left: api.MaxMass},
		{made: 100, left: 100},
	})
}

func TestReceiveRefusesOtherMasses(t *testing.T) {
	for name, b := range map[string]*lots.Book{"new": lots.New(), "example": example(t), "full": full(t)} {
		for _, mass := range noMasses() {
			unchanged(t, b, func() {
				if n, e := b.Receive(mass); n != 0 || e != api.ErrArg {
					t.Errorf("%s: Receive(%d) = %d, %d", name, mass, n, e)
				}
			})
		}
	}
}

func TestBlend(t *testing.T) {
	b := example(t)
	mustBe(t, b, model{
		{made: 100, left: 30},
		{made: 50, left: 40},
		{made: 50, left: 30, parts: parts(part(0, 40), part(1, 10))},
		{made: 50, left: 50, parts: parts(part(2, 20), part(0, 30))},
	})
	// All that is left, of one lot and of all.
	blend(t, b, part(1, 40))
	blend(t, b, part(3, 50), part(0, 30), part(4, 40), part(2, 30))
	want := model{
		{made: 100},
		{made: 50},
		{made: 50, parts: parts(part(0, 40), part(1, 10))},
		{made: 50, parts: parts(part(2, 20), part(0, 30))},
		{made: 40, parts: parts(part(1, 40))},
		{made: 150, left: 150, parts: parts(part(3, 50), part(0, 30), part(4, 40), part(2, 30))},
	}
	mustBe(t, b, want)
}

// Several parts of one lot count as one at the position of the first one.
func TestBlendOfOneLotSeveralTimes(t *testing.T) {
	b := lots.New()
	receive(t, b, 100, 100, 100)
	blend(t, b, part(2, 1), part(0, 2), part(2, 3), part(1, 4), part(0, 5), part(2, 6))
	blend(t, b, part(1, 7), part(1, 7), part(1, 7))
	mustBe(t, b, model{
		{made: 100, left: 93},
		{made: 100, left: 75},
		{made: 100, left: 90},
		{made: 21, left: 21, parts: parts(part(2, 10), part(0, 7), part(1, 4))},
		{made: 21, left: 21, parts: parts(part(1, 21))},
	})
}

func TestBlendOfManyParts(t *testing.T) {
	b := lots.New()
	var all []api.Part
	for number := range api.MaxParts {
		receive(t, b, 10)
		all = append(all, part(number, number%10+1))
	}
	blend(t, b, all...)
	blend(t, b, slices.Repeat(parts(part(16, 1)), api.MaxParts)...)
	got, e := b.Parts(16)
	if !slices.Equal(got, all) || e != api.OK {
		t.Errorf("Parts = %v, %d, want %v", got, e, all)
	}
	if got, e := b.Parts(17); !slices.Equal(got, parts(part(16, 16))) || e != api.OK {
		t.Errorf("Parts = %v, %d", got, e)
	}
	for _, count := range []int{api.MaxParts + 1, 100, 100000} {
		mustRefuse(t, b, api.ErrArg, slices.Repeat(parts(part(16, 1)), count)...)
		mustRefuse(t, b, api.ErrArg, slices.Repeat(parts(part(99, 1)), count)...)
	}
}

func TestBlendRefusesWrongParts(t *testing.T) {
	b := example(t)
	mustRefuse(t, b, api.ErrArg)
	mustRefuse(t, b, api.ErrArg, []api.Part{}...)
	for _, mass := range noMasses() {
		mustRefuse(t, b, api.ErrArg, part(0, mass))
		mustRefuse(t, b, api.ErrArg, part(0, 1), part(1, 1), part(3, mass))
		mustRefuse(t, b, api.ErrArg, part(0, mass), part(0, 1), part(1, 1))
		// Each part counts as it is given, even if the sum would be right.
		mustRefuse(t, b, api.ErrArg, part(0, 3), part(0, mass))
	}
	mustRefuse(t, b, api.ErrArg, part(0, 3), part(0, -2))
	for _, number := range noLots(b) {
		mustRefuse(t, b, api.ErrNone, part(number, 1))
		mustRefuse(t, b, api.ErrNone, part(0, 1), part(1, 1), part(number, 1))
		mustRefuse(t, b, api.ErrNone, part(number, 1), part(0, 1))
	}
	mustRefuse(t, lots.New(), api.ErrNone, part(0, 1))
}

func TestBlendRefusesMoreThanIsLeft(t *testing.T) {
	b := example(t)
	mustRefuse(t, b, api.ErrMass, part(0, 31))
	mustRefuse(t, b, api.ErrMass, part(1, 1), part(0, 31))
	mustRefuse(t, b, api.ErrMass, part(0, 31), part(1, 1))
	mustRefuse(t, b, api.ErrMass, part(0, 30), part(0, 1))
	mustRefuse(t, b, api.ErrMass, part(3, 25), part(0, 1), part(3, 26))
	mustRefuse(t, b, api.ErrMass, slices.Repeat(parts(part(0, api.MaxMass)), api.MaxParts)...)
	ship(t, b, 0, 10)
	mustRefuse(t, b, api.ErrMass, part(0, 21))
	discard(t, b, 0, 10)
	mustRefuse(t, b, api.ErrMass, part(0, 11))
	blend(t, b, part(0, 10))
	mustRefuse(t, b, api.ErrMass, part(0, 1))
}

func TestBlendRefusesTooMuch(t *testing.T) {
	b := lots.New()
	receive(t, b, api.MaxMass, api.MaxMass, 1)
	mustRefuse(t, b, api.ErrMass, part(0, api.MaxMass), part(2, 1))
	mustRefuse(t, b, api.ErrMass, part(2, 1), part(0, api.MaxMass))
	mustRefuse(t, b, api.ErrMass, part(0, api.MaxMass), part(1, api.MaxMass))
	blend(t, b, part(0, api.MaxMass-1), part(2, 1))
	blend(t, b, part(3, api.MaxMass))
	mustBe(t, b, model{
		{made: api.MaxMass, left: 1},
		{made: api.MaxMass, left: api.MaxMass},
		{made: 1},
		{made: api.MaxMass, parts: parts(part(0, api.MaxMass-1), part(2, 1))},
		{made: api.MaxMass, left: api.MaxMass, parts: parts(part(3, api.MaxMass))},
	})
}

// Of several errors, the one that is named first is returned, whichever part has it.
func TestBlendOrderOfErrors(t *testing.T) {
	b := example(t)
	mustRefuse(t, b, api.ErrArg, part(9, 1), part(0, 31), part(0, 0))
	mustRefuse(t, b, api.ErrArg, part(9, 0))
	mustRefuse(t, b, api.ErrNone, part(0, 31), part(9, 1))
	mustRefuse(t, b, api.ErrNone, part(9, 1), part(0, 31))
	mustRefuse(t, b, api.ErrNone, part(0, api.MaxMass), part(1, api.MaxMass), part(-1, 1))
	b = full(t)
	mustRefuse(t, b, api.ErrArg)
	mustRefuse(t, b, api.ErrArg, part(0, 0))
	mustRefuse(t, b, api.ErrNone, part(256, 1))
	mustRefuse(t, b, api.ErrMass, part(0, 101))
	mustRefuse(t, b, api.ErrFull, part(0, 100))
}

func TestFullBook(t *testing.T) {
	b := lots.New()
	receive(t, b, 1000)
	for b.Lots() < api.MaxLots-1 {
		blend(t, b, part(b.Lots()-1, 1000))
	}
	last := b.Clone()
	blend(t, last, part(254, 1000))
	receive(t, b, 1)
	for _, k := range []*lots.Book{b, last} {
		mustRefuse(t, k, api.ErrFull, part(255, 1))
		unchanged(t, k, func() {
			if n, e := k.Receive(1); n != 0 || e != api.ErrFull {
				t.Errorf("Receive = %d, %d", n, e)
			}
		})
		if n := k.Lots(); n != 256 {
			t.Errorf("Lots = %d", n)
		}
		ship(t, k, 255, 1)
	}
}

func TestShipAndDiscard(t *testing.T) {
	b := example(t)
	ship(t, b, 0, 1)
	ship(t, b, 0, 2)
	discard(t, b, 0, 4)
	discard(t, b, 3, 8)
	ship(t, b, 3, 42)
	discard(t, b, 1, 40)
	want := model{
		{made: 100, left: 23, shipped: 3, discarded: 4},
		{made: 50, discarded: 40},
		{made: 50, left: 30, parts: parts(part(0, 40), part(1, 10))},
		{made: 50, shipped: 42, discarded: 8, parts: parts(part(2, 20), part(0, 30))},
	}
	mustBe(t, b, want)
	receive(t, b, api.MaxMass, api.MaxMass)
	ship(t, b, 4, api.MaxMass)
	discard(t, b, 5, api.MaxMass)
	mustBe(t, b, append(want, lot{made: api.MaxMass, shipped: api.MaxMass}, lot{made: api.MaxMass, discarded: api.MaxMass}))
}

func TestShipAndDiscardRefuse(t *testing.T) {
	b := example(t)
	refuse := func(want api.Errno, lot, mass int) {
		t.Helper()
		unchanged(t, b, func() {
			t.Helper()
			if e := b.Ship(lot, mass); e != want {
				t.Errorf("Ship(%d, %d) = %d, want %d", lot, mass, e, want)
			}
			if e := b.Discard(lot, mass); e != want {
				t.Errorf("Discard(%d, %d) = %d, want %d", lot, mass, e, want)
			}
		})
	}
	for _, number := range noLots(b) {
		for _, mass := range append(noMasses(), 1) {
			refuse(api.ErrNone, number, mass)
		}
	}
	for number := range 4 {
		for _, mass := range noMasses() {
			refuse(api.ErrArg, number, mass)
		}
		_, left, _, _, _ := b.Mass(number)
		refuse(api.ErrMass, number, left+1)
		refuse(api.ErrMass, number, api.MaxMass)
	}
	ship(t, b, 3, 50)
	refuse(api.ErrMass, 3, 1)
	refuse(api.ErrArg, 3, 0)
}

func TestUnusableBookMakesNothing(t *testing.T) {
	for name, b := range unusable() {
		for _, mass := range append(noMasses(), 1) {
			if n, e := b.Receive(mass); n != 0 || e != api.ErrUnusable {
				t.Errorf("%s: Receive(%d) = %d, %d", name, mass, n, e)
			}
			for _, number := range []int{0, -1, 256} {
				if n, e := b.Blend(parts(part(number, mass))); n != 0 || e != api.ErrUnusable {
					t.Errorf("%s: Blend = %d, %d", name, n, e)
				}
				if e := b.Ship(number, mass); e != api.ErrUnusable {
					t.Errorf("%s: Ship(%d, %d) = %d", name, number, mass, e)
				}
				if e := b.Discard(number, mass); e != api.ErrUnusable {
					t.Errorf("%s: Discard(%d, %d) = %d", name, number, mass, e)
				}
			}
		}
		if n, e := b.Blend(nil); n != 0 || e != api.ErrUnusable {
			t.Errorf("%s: Blend = %d, %d", name, n, e)
		}
		if n := b.Lots(); n != 0 {
			t.Errorf("%s: Lots = %d", name, n)
		}
	}
}

// A book neither changes nor keeps the list of parts that it receives.
func TestBlendLeavesItsArgument(t *testing.T) {
	b := example(t)
	for _, list := range [][]api.Part{
		parts(part(3, 1), part(0, 2), part(3, 3)),
		parts(part(3, 1), part(0, 2)),
		parts(part(0, 31), part(0, 2)),
	} {
		before := slices.Clone(list)
		n, e := b.Blend(list)
		if !slices.Equal(list, before) {
			t.Errorf("%v became %v", before, list)
		}
		clear(list)
		if e != api.OK {
			continue
		}
		if got, _ := b.Parts(n); got[0].Lot != 3 || got[1] != part(0, 2) {
			t.Errorf("Parts = %v of %v", got, before)
		}
	}
}

func TestRandomActs(t *testing.T) {
	r := rand.New(rand.NewSource(91))
	for range 300 {
		random(t, r, 60, 1+r.Intn(30))
		random(t, r, 60, api.MaxMass)
	}
	for range 5 {
		random(t, r, 1500, 1+r.Intn(30))
	}
}
