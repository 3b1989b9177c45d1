package bed_test

import (
	"math/rand"
	"slices"
	"testing"

	"acrospire/api"
	"acrospire/bed"
)

func TestTick(t *testing.T) {
	mustTick(t, grain(1, 4, 0), cells(10, 2), cells(8, 4), 0)
	mustTick(t, grain(1, 4, 0), cells(8, 4), cells(7, 5), 0)
	mustTick(t, grain(1, 4, 0), cells(7, 5), cells(7, 5), 0)
	mustTick(t, grain(1, 3, 1), cells(9, 0), cells(3, 3), 3)
	mustTick(t, grain(2, 7, 0), cells(0, 100, 7), cells(28, 46, 33), 0)
}

func TestFlowsAreRoundedTowardZero(t *testing.T) {
	mustTick(t, grain(1, 3, 0), cells(10, 2), cells(8, 4), 0)
	mustTick(t, grain(1, 3, 0), cells(2, 10), cells(4, 8), 0)
	mustTick(t, grain(1, 3, 0), cells(2, 0), cells(2, 0), 0)
	mustTick(t, grain(1, 3, 0), cells(0, 2), cells(0, 2), 0)
	mustTick(t, grain(1, 3, 0), cells(2, 0, 2), cells(2, 0, 2), 0)
	mustTick(t, grain(2, 5, 0), cells(7, 0), cells(5, 2), 0)
	mustTick(t, grain(2, 5, 0), cells(0, 7), cells(2, 5), 0)
}

func TestFlowsDependOnTheBedBeforeTheTick(t *testing.T) {
	mustTick(t, grain(1, 2, 0), cells(8, 0, 0), cells(4, 4, 0), 0)
	mustTick(t, grain(1, 2, 0), cells(0, 0, 8), cells(0, 4, 4), 0)
	mustTick(t, grain(1, 2, 0), cells(0, 8, 0), cells(4, 0, 4), 0)
	mustTick(t, grain(1, 2, 0), cells(8, 0, 8), cells(4, 8, 4), 0)
	mustTick(t, grain(1, 4, 0), cells(16, 0, 0, 16), cells(12, 4, 4, 12), 0)
}

func TestTopCellLoses(t *testing.T) {
	mustTick(t, grain(0, 1, 1), cells(5, 7), cells(0, 7), 5)
	mustTick(t, grain(0, 4, 3), cells(7, 7, 7), cells(2, 7, 7), 5)
	mustTick(t, grain(1, 4, 1), cells(11), cells(9), 2)
	mustTick(t, grain(1, 4, 1), cells(3), cells(3), 0)
	mustTick(t, grain(1, 4, 1), cells(0), cells(0), 0)
	// Flow and loss are rounded apart from one another.
	mustTick(t, grain(1, 4, 2), cells(7, 0), cells(3, 1), 3)
	mustTick(t, grain(1, 5, 3), cells(4, 0), cells(2, 0), 2)
	mustTick(t, grain(1, 5, 3), cells(0, 9), cells(1, 8), 0)
	mustTick(t, grain(1, 4, 2), cells(9, 20), cells(7, 18), 4)
	// The last cell loses nothing.
	mustTick(t, grain(1, 4, 2), cells(0, 0, 16), cells(0, 4, 12), 0)
}

func TestGrainThatHoldsItsMoisture(t *testing.T) {
	for _, den := range []int{1, 2, 1 << 20} {
		mustTick(t, grain(0, den, 0), cells(0, 1<<20, 5), cells(0, 1<<20, 5), 0)
	}
	mustTick(t, grain(1, 1<<20, 0), cells(1<<20, 0), cells(1<<20-1, 1), 0)
	mustTick(t, grain(1, 1<<20, 0), cells(1<<20-1, 0), cells(1<<20-1, 0), 0)
	mustTick(t, grain(0, 1<<20, 1), cells(1<<20, 0), cells(1<<20-1, 0), 1)
	mustTick(t, grain(0, 1<<20, 1), cells(1<<20-1, 0), cells(1<<20-1, 0), 0)
}

func TestGreatestFlows(t *testing.T) {
	half, whole := 1<<19, 1<<20
	mustTick(t, grain(half, whole, 0), cells(whole, 0, whole, 0), cells(half, whole, 0, half), 0)
	mustTick(t, grain(0, whole, whole), cells(whole, whole), cells(0, whole), whole)
	mustTick(t, grain(half, whole, 0), cells(0, whole), cells(half, half), 0)
	mustTick(t, grain(1<<18, whole, half), cells(whole, 0), cells(1<<18, 1<<18), half)
	mustTick(t, grain(half, whole, 0), equal(64, whole), equal(64, whole), 0)
	mustTick(t, grain(1, 2, 0), append(equal(63, 0), whole), append(equal(62, 0), half, half), 0)
}

func TestRandomTicks(t *testing.T) {
	r := rand.New(rand.NewSource(110))
	for range 20000 {
		g, b := wildGrain(r), wildBed(r)
		after, lost := tick(g, b)
		mustTick(t, g, b, after, lost)
		g = briskGrain(r)
		after, lost = tick(g, b)
		mustTick(t, g, b, after, lost)
	}
}

func TestRun(t *testing.T) {
	g := grain(1, 4, 0)
	mustRun(t, g, cells(10, 2), 0, cells(10, 2), 0, 0)
	mustRun(t, g, cells(10, 2), 1, cells(8, 4), 0, 1)
	mustRun(t, g, cells(10, 2), 2, cells(7, 5), 0, 2)
	mustRun(t, g, cells(10, 2), 3, cells(7, 5), 0, 2)
	mustRun(t, g, cells(10, 2), 1<<20, cells(7, 5), 0, 2)
	mustRun(t, g, cells(7, 5), 5, cells(7, 5), 0, 0)
	mustRun(t, g, cells(9), 5, cells(9), 0, 0)
}

func TestRunAddsUpWhatIsLost(t *testing.T) {
	g := grain(0, 2, 1)
	mustRun(t, g, cells(20, 3), 0, cells(20, 3), 0, 0)
	mustRun(t, g, cells(20, 3), 1, cells(10, 3), 10, 1)
	mustRun(t, g, cells(20, 3), 2, cells(5, 3), 15, 2)
	mustRun(t, g, cells(20, 3), 4, cells(2, 3), 18, 4)
	mustRun(t, g, cells(20, 3), 5, cells(1, 3), 19, 5)
	mustRun(t, g, cells(20, 3), 100, cells(1, 3), 19, 5)
	mustRun(t, grain(1, 3, 1), cells(9, 0), 1, cells(3, 3), 3, 1)
	mustRun(t, grain(1, 3, 1), cells(9, 0), 100, cells(2, 3), 4, 2)
}

// A bed is not at rest because nothing is lost, its spread or its total stays the same, or
// some of its cells do.
func TestRunEndsAtRestOnly(t *testing.T) {
	mustRun(t, grain(0, 1, 1), equal(3, 6), 7, cells(0, 6, 6), 6, 1)
	mustRun(t, grain(1, 2, 0), cells(8, 0, 8), 1, cells(4, 8, 4), 0, 1)
	mustRun(t, grain(1, 2, 0), cells(8, 0, 8), 2, cells(6, 4, 6), 0, 2)
	// Nothing is lost in the first ticks, and the top cell stays as it is.
	mustRun(t, grain(1, 4, 1), cells(0, 0, 0, 64), 1, cells(0, 0, 16, 48), 0, 1)
	mustRun(t, grain(1, 4, 1), cells(0, 0, 0, 64), 2, cells(0, 4, 20, 40), 0, 2)
	mustRun(t, grain(1, 4, 1), cells(0, 0, 0, 64), 3, cells(1, 7, 21, 35), 0, 3)
	// In the first tick, the top cell receives what it loses.
	mustRun(t, grain(1, 4, 1), cells(8, 16), 1, cells(8, 14), 2, 1)
	mustRun(t, grain(1, 4, 1), cells(8, 16), 3, cells(7, 12), 5, 3)
	// All cells but one receive what they lose.
	mustRun(t, grain(1, 4, 1), cells(4, 8, 12), 1, cells(4, 8, 11), 1, 1)
	mustRun(t, grain(1, 4, 0), cells(12, 8, 4, 0), 1, cells(11, 8, 4, 1), 0, 1)
}

func TestRandomRuns(t *testing.T) {
	r := rand.New(rand.NewSource(111))
	for range 2000 {
		g, b, ticks := wildGrain(r), wildBed(r), r.Intn(1+r.Intn(40))
		after, lost, changes := run(g, b, ticks)
		mustRun(t, g, b, ticks, after, lost, changes)
		g = briskGrain(r)
		after, lost, changes = run(g, b, ticks)
		mustRun(t, g, b, ticks, after, lost, changes)
	}
}

// The largest bed dries so slowly that it is not at rest after the greatest number of ticks.
func TestLongestRun(t *testing.T) {
	g, before, most := grain(1<<18, 1<<20, 8), equal(64, 1<<20), 1<<20
	now, lost := before, 0
	greatest, first := 1<<20, 0 // the moisture of the moistest cell, and since when it has it
	for ticks := range most {
		after, loss, _ := bed.Tick(g, now)
		if slices.Equal(after, now) {
			t.Fatalf("%v is at rest", now)
		}
		if m := slices.Max(after); m < greatest {
			greatest, first = m, ticks+1
		}
		now = after
		lost += loss
	}
	mustRun(t, g, before, most, now, lost, most)
	mustReach(t, g, before, 0, greatest, most, first)
	mustReach(t, g, before, 0, greatest, first, first)
	mustNotReach(t, g, before, 0, greatest, first-1, api.ErrNone)
	mustNotReach(t, g, before, 0, greatest-1, most, api.ErrNone)
}

func TestTicksThatAreRefused(t *testing.T) {
	for _, b := range noBeds() {
		mustRefuseTicks(t, grain(1, 4, 1), b)
	}
	for _, g := range noGrains() {
		mustRefuseTicks(t, g, cells(5, 1))
		mustRefuseTicks(t, g, nil)
	}
	for _, ticks := range wrongTicks() {
		mustRefuseRun(t, grain(1, 4, 1), cells(5, 1), ticks)
		mustRefuseRun(t, grain(0, 1, 0), cells(5, 1), ticks)
		mustRefuseRun(t, grain(0, 0, 0), nil, ticks)
	}
}

func TestLimitsOfGrainsAndBeds(t *testing.T) {
	for _, g := range []api.Grain{grain(0, 1, 0), grain(0, 1, 1), grain(1, 2, 0), grain(1, 3, 1), grain(2, 5, 1),
		grain(2, 4, 0), grain(1, 4, 2), grain(0, 1<<20, 1<<20), grain(1<<19, 1<<20, 0), grain(1<<19-1, 1<<20, 2), grain(1<<18, 1<<20, 1<<19)} {
		for _, b := range [][]int{{0}, {1 << 20}, {0, 1 << 20, 77}, equal(63, 9), equal(64, 0), equal(64, 1<<20)} {
			after, lost := tick(g, b)
			mustTick(t, g, b, after, lost)
			after, lost, changes := run(g, b, 9)
			mustRun(t, g, b, 9, after, lost, changes)
		}
	}
}
