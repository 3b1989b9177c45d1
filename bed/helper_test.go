package bed_test

import (
	"math"
	"math/big"
	"math/rand"
	"slices"
	"testing"

	"acrospire/api"
	"acrospire/bed"
)

// The tests compare with a plain reading of the chapter, which computes in integers of any
// size, takes the amount of a flow apart from its direction, and never ends a run early.

func grain(num, den, loss int) api.Grain {
	return api.Grain{Num: num, Den: den, Loss: loss}
}

func cells(list ...int) []int {
	return list
}

// equal returns a bed of equal cells.
func equal(count, moisture int) []int {
	return slices.Repeat(cells(moisture), count)
}

// portion returns an amount that is not negative, times num, divided by den, rounded down.
func portion(amount, num, den int) int {
	p := new(big.Int).Mul(big.NewInt(int64(amount)), big.NewInt(int64(num)))
	return int(p.Div(p, big.NewInt(int64(den))).Int64())
}

// received returns what a cell with that moisture receives from another one in a tick.
func received(g api.Grain, own, other int) int {
	if own > other {
		return -portion(own-other, g.Num, g.Den)
	}
	return portion(other-own, g.Num, g.Den)
}

func tick(g api.Grain, bed []int) ([]int, int) {
	var after []int
	for i, own := range bed {
		moisture := own
		if i > 0 {
			moisture += received(g, own, bed[i-1])
		}
		if i+1 < len(bed) {
			moisture += received(g, own, bed[i+1])
		}
		after = append(after, moisture)
	}
	lost := portion(bed[0], g.Loss, g.Den)
	after[0] -= lost
	return after, lost
}

func run(g api.Grain, bed []int, ticks int) ([]int, int, int) {
	lost, changes := 0, 0
	for range ticks {
		after, loss := tick(g, bed)
		lost += loss
		if !slices.Equal(after, bed) {
			changes++
		}
		bed = after
	}
	return bed, lost, changes
}

func until(g api.Grain, bed []int, low, high, most int) (int, api.Errno) {
	for ticks := range most + 1 {
		if !slices.ContainsFunc(bed, func(m int) bool { return m < low || m > high }) {
			return ticks, api.OK
		}
		bed, _ = tick(g, bed)
	}
	return 0, api.ErrNone
}

func total(bed []int) int {
	sum := 0
	for _, moisture := range bed {
		sum += moisture
	}
	return sum
}

func mustTick(t *testing.T, g api.Grain, before, after []int, lost int) {
	t.Helper()
	if got, loss, e := bed.Tick(g, before); !slices.Equal(got, after) || loss != lost || e != api.OK {
		t.Errorf("Tick(%v, %v) = %v, %d, %d, want %v, %d", g, before, got, loss, e, after, lost)
	}
}

func mustRun(t *testing.T, g api.Grain, before []int, ticks int, after []int, lost, changes int) {
	t.Helper()
	got, loss, n, e := bed.Run(g, before, ticks)
	if !slices.Equal(got, after) || loss != lost || n != changes || e != api.OK {
		t.Errorf("Run(%v, %v, %d) = %v, %d, %d, %d, want %v, %d, %d", g, before, ticks, got, loss, n, e, after, lost, changes)
	}
}

func mustReach(t *testing.T, g api.Grain, before []int, low, high, most, want int) {
	t.Helper()
	if n, e := bed.Until(g, before, low, high, most); n != want || e != api.OK {
		t.Errorf("Until(%v, %v, %d, %d, %d) = %d, %d, want %d", g, before, low, high, most, n, e, want)
	}
}

func mustNotReach(t *testing.T, g api.Grain, before []int, low, high, most int, want api.Errno) {
	t.Helper()
	if n, e := bed.Until(g, before, low, high, most); n != 0 || e != want {
		t.Errorf("Until(%v, %v, %d, %d, %d) = %d, %d, want %d", g, before, low, high, most, n, e, want)
	}
}

func mustSteep(t *testing.T, before []int, full, water int, after []int, left int) {
	t.Helper()
	if got, rest, e := bed.Steep(before, full, water); !slices.Equal(got, after) || rest != left || e != api.OK {
		t.Errorf("Steep(%v, %d, %d) = %v, %d, %d, want %v, %d", before, full, water, got, rest, e, after, left)
	}
}

func mustTurn(t *testing.T, before, after []int) {
	t.Helper()
	if got, e := bed.Turn(before); !slices.Equal(got, after) || e != api.OK {
		t.Errorf("Turn(%v) = %v, %d, want %v", before, got, e, after)
	}
}

func mustSpread(t *testing.T, before []int, want int) {
	t.Helper()
	if n, e := bed.Spread(before); n != want || e != api.OK {
		t.Errorf("Spread(%v) = %d, %d, want %d", before, n, e, want)
	}
}

// mustRefuseTicks checks that the functions with a grain refuse these.
func mustRefuseTicks(t *testing.T, g api.Grain, before []int) {
	t.Helper()
	if got, lost, e := bed.Tick(g, before); len(got) != 0 || lost != 0 || e != api.ErrArg {
		t.Errorf("Tick(%v, %v) = %v, %d, %d", g, before, got, lost, e)
	}
	mustRefuseRun(t, g, before, 3)
	// The first range would be reached at once, the second one never.
	mustNotReach(t, g, before, math.MinInt, math.MaxInt, 3, api.ErrArg)
	mustNotReach(t, g, before, 1, 0, 3, api.ErrArg)
}

func mustRefuseRun(t *testing.T, g api.Grain, before []int, ticks int) {
	t.Helper()
	if got, lost, n, e := bed.Run(g, before, ticks); len(got) != 0 || lost != 0 || n != 0 || e != api.ErrArg {
		t.Errorf("Run(%v, %v, %d) = %v, %d, %d, %d", g, before, ticks, got, lost, n, e)
	}
}

func mustRefuseSteep(t *testing.T, before []int, full, water int) {
	t.Helper()
	if got, left, e := bed.Steep(before, full, water); len(got) != 0 || left != 0 || e != api.ErrArg {
		t.Errorf("Steep(%v, %d, %d) = %v, %d, %d", before, full, water, got, left, e)
	}
}

func noBeds() [][]int {
	return [][]int{nil, {}, equal(65, 1), equal(66, 1), equal(1000, 1),
		{-1}, {1<<20 + 1}, {-1, 5}, {5, -1}, {5, 1<<20 + 1, 5}, {5, 5, 1<<20 + 1}, append(equal(63, 1), -1),
		{math.MaxInt}, {5, math.MinInt}, {math.MaxInt, 5}, {1 << 32}}
}

func noGrains() []api.Grain {
	return []api.Grain{{}, grain(0, 0, 0), grain(0, -1, 0), grain(0, 1<<20+1, 0), grain(0, math.MaxInt, 0),
		grain(0, math.MinInt, 0), grain(-1, 4, 0), grain(-1, 4, 3), grain(1, 4, -1), grain(2, 4, -1),
		grain(0, 4, 5), grain(1, 4, 3), grain(2, 4, 1), grain(2, 3, 0), grain(3, 4, 0), grain(1, 1, 0), grain(1<<19, 1<<20, 1),
		// Twice these numbers, or sums of them, seem small when they wrap around.
		grain(1<<62, 4, 0), grain(1<<63-1, 4, 0), grain(1<<63-1, 4, 2), grain(1<<62, 4, math.MaxInt),
		grain(1, 4, math.MaxInt), grain(2, 4, math.MaxInt), grain(1<<32, 4, 0), grain(0, 4, 1<<32),
		grain(math.MinInt, 4, 0), grain(math.MinInt, 4, 4), grain(1, 4, math.MinInt)}
}

// wildGrain returns any grain that is valid; every second one has no loss.
func wildGrain(r *rand.Rand) api.Grain {
	den := 1 + r.Intn(1<<r.Intn(21))
	loss := r.Intn(2) * r.Intn(den+1)
	return grain(r.Intn((den-loss)/2+1), den, loss)
}

// briskGrain returns a grain in which much flows.
func briskGrain(r *rand.Rand) api.Grain {
	den := 2 + r.Intn(20)
	num := 1 + r.Intn(den/2)
	return grain(num, den, r.Intn(2)*r.Intn(den-2*num+1))
}

func wildBed(r *rand.Rand) []int {
	var bed []int
	scale := r.Intn(21)
	for range 1 + r.Intn(1<<r.Intn(7)) {
		bed = append(bed, r.Intn(1<<scale+1))
	}
	return bed
}
