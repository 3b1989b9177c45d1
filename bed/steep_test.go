package bed_test

import (
	"math"
	"math/rand"
	"slices"
	"testing"

	"acrospire/api"
	"acrospire/bed"
)

func TestSteep(t *testing.T) {
	mustSteep(t, cells(1, 5, 2), 4, 6, cells(4, 5, 4), 1)
	mustSteep(t, cells(1, 5, 2), 4, 5, cells(4, 5, 4), 0)
	mustSteep(t, cells(1, 5, 2), 4, 4, cells(4, 5, 3), 0)
	mustSteep(t, cells(1, 5, 2), 4, 3, cells(4, 5, 2), 0)
	mustSteep(t, cells(1, 5, 2), 4, 2, cells(3, 5, 2), 0)
	mustSteep(t, cells(1, 5, 2), 4, 0, cells(1, 5, 2), 0)
	mustSteep(t, cells(1, 5, 2), 5, 100, cells(5, 5, 5), 93)
	mustSteep(t, cells(1, 5, 2), 6, 100, cells(6, 6, 6), 90)
	mustSteep(t, cells(4, 4), 4, 7, cells(4, 4), 7)
	mustSteep(t, cells(9), 4, 7, cells(9), 7)
	mustSteep(t, cells(9, 8, 3, 7), 4, 7, cells(9, 8, 4, 7), 6)
}

func TestLimitsOfSteep(t *testing.T) {
	mustSteep(t, cells(0, 7), 0, 3, cells(0, 7), 3)
	mustSteep(t, cells(0, 7), 1<<20, 1<<20, cells(1<<20, 7), 0)
	mustSteep(t, cells(0, 7), 1<<20, 1<<21, cells(1<<20, 1<<20), 7)
	mustSteep(t, cells(1<<20, 0), 1<<20, 1, cells(1<<20, 1), 0)
	mustSteep(t, cells(0, 0), 5, math.MaxInt, cells(5, 5), math.MaxInt-10)
	mustSteep(t, cells(1<<20), 1<<20, math.MaxInt, cells(1<<20), math.MaxInt)
	mustSteep(t, equal(64, 0), 1<<20, 1<<26, equal(64, 1<<20), 0)
	mustSteep(t, equal(64, 0), 1<<20, 1<<26-1, append(equal(63, 1<<20), 1<<20-1), 0)
}

func TestRandomSteep(t *testing.T) {
	r := rand.New(rand.NewSource(113))
	for range 5000 {
		b, water := wildBed(r), r.Intn(1<<r.Intn(27))
		full := r.Intn(1<<r.Intn(21) + 1)
		// Each unit goes to the first cell that is not full.
		wet, left := slices.Clone(b), min(water, 1000)
		for range left {
			if i := slices.IndexFunc(wet, func(m int) bool { return m < full }); i >= 0 {
				wet[i]++
				left--
			}
		}
		mustSteep(t, b, full, min(water, 1000), wet, left)
	}
}

func TestSteepIsRefused(t *testing.T) {
	for _, b := range noBeds() {
		mustRefuseSteep(t, b, 4, 6)
	}
	for _, full := range []int{-1, 1<<20 + 1, 1 << 32, math.MaxInt, math.MinInt} {
		mustRefuseSteep(t, cells(1, 5), full, 6)
		mustRefuseSteep(t, cells(1, 5), full, 0)
		mustRefuseSteep(t, nil, full, -1)
	}
	for _, water := range []int{-1, -6, -1 << 32, math.MinInt} {
		mustRefuseSteep(t, cells(1, 5), 4, water)
		mustRefuseSteep(t, cells(5, 5), 4, water)
	}
}

func TestTurn(t *testing.T) {
	mustTurn(t, cells(7), cells(7))
	mustTurn(t, cells(1, 2), cells(2, 1))
	mustTurn(t, cells(1, 5, 2), cells(2, 5, 1))
	mustTurn(t, cells(0, 1<<20, 3, 4), cells(4, 3, 1<<20, 0))
	mustTurn(t, equal(64, 1<<20), equal(64, 1<<20))
	mustTurn(t, append(equal(63, 0), 9), append(cells(9), equal(63, 0)...))
}

func TestSpread(t *testing.T) {
	mustSpread(t, cells(7), 0)
	mustSpread(t, cells(0), 0)
	mustSpread(t, cells(4, 4, 4), 0)
	mustSpread(t, cells(1, 5, 2), 4)
	mustSpread(t, cells(2, 5, 1), 4)
	mustSpread(t, cells(5, 2, 1), 4)
	mustSpread(t, cells(1, 2, 5), 4)
	mustSpread(t, cells(3, 1, 2, 3), 2)
	mustSpread(t, cells(0, 1<<20), 1<<20)
	mustSpread(t, append(equal(63, 1<<20), 1), 1<<20-1)
}

func TestTurnAndSpreadAreRefused(t *testing.T) {
	for _, b := range noBeds() {
		if got, e := bed.Turn(b); len(got) != 0 || e != api.ErrArg {
			t.Errorf("Turn(%v) = %v, %d", b, got, e)
		}
		if n, e := bed.Spread(b); n != 0 || e != api.ErrArg {
			t.Errorf("Spread(%v) = %d, %d", b, n, e)
		}
	}
}
