package bed_test

import (
	"math"
	"math/rand"
	"slices"
	"testing"

	"acrospire/api"
)

func wrongTicks() []int {
	return []int{-1, -2, 1<<20 + 1, 1 << 21, 1 << 32, -1 << 20, math.MaxInt, math.MinInt}
}

func TestUntil(t *testing.T) {
	g := grain(1, 4, 0)
	mustReach(t, g, cells(10, 2), 2, 10, 9, 0)
	mustReach(t, g, cells(10, 2), 2, 9, 9, 1)
	mustReach(t, g, cells(10, 2), 3, 10, 9, 1)
	mustReach(t, g, cells(10, 2), 4, 8, 9, 1)
	mustReach(t, g, cells(10, 2), 4, 7, 9, 2)
	mustReach(t, g, cells(10, 2), 5, 8, 9, 2)
	mustReach(t, g, cells(10, 2), 5, 7, 9, 2)
	mustNotReach(t, g, cells(10, 2), 5, 6, 9, api.ErrNone)
	mustNotReach(t, g, cells(10, 2), 6, 7, 9, api.ErrNone)
}

func TestUntilCountsTheMostTicks(t *testing.T) {
	g := grain(1, 4, 0)
	mustReach(t, g, cells(10, 2), 2, 10, 0, 0)
	mustNotReach(t, g, cells(10, 2), 3, 9, 0, api.ErrNone)
	mustReach(t, g, cells(10, 2), 3, 9, 1, 1)
	mustNotReach(t, g, cells(10, 2), 5, 7, 1, api.ErrNone)
	mustReach(t, g, cells(10, 2), 5, 7, 2, 2)
	mustReach(t, g, cells(10, 2), 5, 7, 1<<20, 2)
	mustNotReach(t, g, cells(10, 2), 6, 6, 1<<20, api.ErrNone)
	mustReach(t, g, cells(10, 2), 2, 10, 1<<20, 0)
}

func TestUntilNeedsEveryCell(t *testing.T) {
	still := grain(0, 1, 0)
	for i := range 3 {
		b := equal(3, 5)
		b[i] = 4
		mustNotReach(t, still, b, 5, 9, 9, api.ErrNone)
		mustReach(t, still, b, 4, 9, 9, 0)
		b[i] = 6
		mustNotReach(t, still, b, 1, 5, 9, api.ErrNone)
		mustReach(t, still, b, 1, 6, 9, 0)
	}
	// Cells are within the range one after the other, but not at the same time.
	mustNotReach(t, grain(1, 2, 0), cells(8, 0, 8), 8, 8, 99, api.ErrNone)
	mustReach(t, grain(1, 2, 0), cells(8, 0, 8), 4, 6, 99, 2)
}

// A bed that dries is within a range for some time only.
func TestUntilReturnsTheLeastNumber(t *testing.T) {
	g := grain(0, 10, 1)
	mustReach(t, g, cells(100), 50, 95, 99, 1)
	mustReach(t, g, cells(100), 50, 81, 99, 2)
	mustReach(t, g, cells(100), 73, 73, 99, 3)
	mustReach(t, g, cells(100), 0, 99, 99, 1)
	mustNotReach(t, g, cells(100), 74, 80, 99, api.ErrNone)
	mustNotReach(t, g, cells(100), 0, 73, 2, api.ErrNone)
	mustReach(t, g, cells(100), 9, 9, 27, 27)
	mustNotReach(t, g, cells(100), 9, 9, 26, api.ErrNone)
	mustReach(t, g, cells(100), 0, 9, 1<<20, 27)
	mustNotReach(t, g, cells(100), 0, 8, 1<<20, api.ErrNone)
}

func TestUntilTakesAnyRange(t *testing.T) {
	g := grain(1, 4, 1)
	mustReach(t, g, cells(10, 2), math.MinInt, math.MaxInt, 9, 0)
	mustReach(t, g, cells(10, 2), -5, 10, 9, 0)
	mustReach(t, g, cells(0, 1<<20), 0, 1<<20, 0, 0)
	mustReach(t, g, cells(0, 1<<20), -1, 1<<20+1, 0, 0)
	mustNotReach(t, g, cells(10, 2), math.MaxInt, math.MinInt, 9, api.ErrNone)
	mustNotReach(t, g, cells(5, 5), 6, 4, 9, api.ErrNone)
	mustNotReach(t, g, cells(5), 5, 4, 9, api.ErrNone)
	mustNotReach(t, g, cells(0, 0), math.MinInt, -1, 9, api.ErrNone)
	mustNotReach(t, g, cells(1<<20), 1<<20+1, math.MaxInt, 9, api.ErrNone)
}

func TestRandomUntil(t *testing.T) {
	r := rand.New(rand.NewSource(112))
	reached := 0
	for range 4000 {
		g, b, most := briskGrain(r), wildBed(r), r.Intn(40)
		after, _, _ := run(g, b, r.Intn(most+2))
		low, high := slices.Min(after)-r.Intn(3)/2, slices.Max(after)+r.Intn(3)/2
		want, e := until(g, b, low, high, most)
		if e != api.OK {
			mustNotReach(t, g, b, low, high, most, e)
			continue
		}
		reached++
		mustReach(t, g, b, low, high, most, want)
	}
	if reached < 1000 || reached > 3990 {
		t.Errorf("%d of the ranges were reached", reached)
	}
}

func TestUntilIsRefused(t *testing.T) {
	for _, most := range wrongTicks() {
		mustNotReach(t, grain(1, 4, 1), cells(5, 1), 0, 9, most, api.ErrArg)
		mustNotReach(t, grain(1, 4, 1), cells(5, 1), 9, 0, most, api.ErrArg)
		mustNotReach(t, grain(0, 1, 0), cells(5), 5, 5, most, api.ErrArg)
		mustNotReach(t, grain(0, 0, 0), nil, 0, 9, most, api.ErrArg)
	}
}
