package bed_test

import (
	"math/rand"
	"slices"
	"testing"

	"acrospire/api"
	"acrospire/bed"
)

// cases calls a function for grains and beds of all kinds.
func cases(seed int64, check func(r *rand.Rand, g api.Grain, b []int)) {
	r := rand.New(rand.NewSource(seed))
	for range 3000 {
		check(r, wildGrain(r), wildBed(r))
		check(r, briskGrain(r), wildBed(r))
	}
}

// without returns the grain without its loss.
func without(g api.Grain) api.Grain {
	return grain(g.Num, g.Den, 0)
}

func TestMoistureIsKept(t *testing.T) {
	cases(114, func(r *rand.Rand, g api.Grain, b []int) {
		after, lost, e := bed.Tick(g, b)
		if e != api.OK || total(after)+lost != total(b) || lost < 0 {
			t.Fatalf("Tick(%v, %v) = %v, %d, %d", g, b, after, lost, e)
		}
		ticks := r.Intn(100)
		after, lost, _, e = bed.Run(g, b, ticks)
		if e != api.OK || total(after)+lost != total(b) || lost < 0 {
			t.Fatalf("Run(%v, %v, %d) = %v, %d, %d", g, b, ticks, after, lost, e)
		}
		full, water := r.Intn(1<<20+1), r.Intn(1<<r.Intn(27))
		after, left, e := bed.Steep(b, full, water)
		if e != api.OK || total(after)-total(b) != water-left || left < 0 || left > water {
			t.Fatalf("Steep(%v, %d, %d) = %v, %d, %d", b, full, water, after, left, e)
		}
	})
}

func TestMoistureStaysInRange(t *testing.T) {
	cases(115, func(r *rand.Rand, g api.Grain, b []int) {
		if r.Intn(2) == 0 { // the moistest and the driest bed
			for i := range b {
				b[i] = r.Intn(2) << 20
			}
		}
		for range 20 {
			after, _, _ := bed.Tick(g, b)
			if slices.Min(after) < 0 || slices.Max(after) > 1<<20 {
				t.Fatalf("Tick(%v, %v) = %v", g, b, after)
			}
			b = after
		}
	})
}

func TestSpreadNeverGrowsWithoutLoss(t *testing.T) {
	cases(116, func(r *rand.Rand, g api.Grain, b []int) {
		for range 20 {
			after, lost, _ := bed.Tick(without(g), b)
			if lost != 0 || slices.Min(after) < slices.Min(b) || slices.Max(after) > slices.Max(b) {
				t.Fatalf("Tick(%v, %v) = %v, %d", without(g), b, after, lost)
			}
			before, _ := bed.Spread(b)
			if now, _ := bed.Spread(after); now > before {
				t.Fatalf("the spread of %v was %d, that of %v is %d", b, before, after, now)
			}
			b = after
		}
	})
}

// flows tells whether anything flows between any neighbors.
func flows(g api.Grain, b []int) bool {
	for i, moisture := range b[1:] {
		if (moisture-b[i])*g.Num >= g.Den || (b[i]-moisture)*g.Num >= g.Den {
			return true
		}
	}
	return false
}

func TestRestWithoutLoss(t *testing.T) {
	seen := map[bool]int{}
	cases(117, func(r *rand.Rand, g api.Grain, b []int) {
		g = without(g)
		_, _, changes, _ := bed.Run(g, b, 1)
		after, _, _ := bed.Tick(g, b)
		if moves := flows(g, b); moves != (changes == 1) || moves == slices.Equal(after, b) {
			t.Fatalf("Run(%v, %v, 1) makes %d changes, and Tick makes %v, but it flows: %t", g, b, changes, after, moves)
		}
		after, _, changes, _ = bed.Run(g, b, 500)
		if changes < 500 && flows(g, after) {
			t.Fatalf("Run(%v, %v, 500) = %v, %d", g, b, after, changes)
		}
		seen[flows(g, b)]++
		seen[changes < 500]++
	})
	if seen[false] < 500 || seen[true] < 500 {
		t.Errorf("so many beds were moving and at rest: %v", seen)
	}
}

func TestTickAndTurnCanBeExchanged(t *testing.T) {
	cases(118, func(r *rand.Rand, g api.Grain, b []int) {
		after, _, _ := bed.Tick(without(g), b)
		want, _ := bed.Turn(after)
		turned, _ := bed.Turn(b)
		mustTick(t, without(g), turned, want, 0)
		mustTurn(t, turned, b)
	})
}

func TestEqualCellsStayEqual(t *testing.T) {
	cases(119, func(r *rand.Rand, g api.Grain, b []int) {
		same := equal(len(b), b[0])
		mustTick(t, without(g), same, same, 0)
		mustRun(t, without(g), same, 1+r.Intn(9), same, 0, 0)
	})
}

func TestRunsAddUp(t *testing.T) {
	cases(120, func(r *rand.Rand, g api.Grain, b []int) {
		one, two := r.Intn(30), r.Intn(30)
		half, lost, changes, _ := bed.Run(g, b, one)
		after, later, more, _ := bed.Run(g, half, two)
		mustRun(t, g, b, one+two, after, lost+later, changes+more)
	})
}

// calls returns the results of all calls that return beds, by the names of these calls.
func calls(g api.Grain, b []int) map[string][]int {
	ticked, _, _ := bed.Tick(g, b)
	still, _, _, _ := bed.Run(g, b, 0)
	ran, _, _, _ := bed.Run(g, b, 5)
	resting, _, _, _ := bed.Run(grain(0, 1, 0), b, 5)
	dry, _, _ := bed.Steep(b, 1<<20, 0)
	wet, _, _ := bed.Steep(b, 1<<20, 3)
	turned, _ := bed.Turn(b)
	return map[string][]int{"Tick": ticked, "Run 0": still, "Run 5": ran, "Run at rest": resting,
		"Steep 0": dry, "Steep 3": wet, "Turn": turned}
}

func TestResultsAreNewMemory(t *testing.T) {
	g := grain(1, 4, 1)
	for _, b := range [][]int{{40, 2, 7}, {9}, {6, 6}, equal(64, 77)} {
		// There is room behind the cells, which is not theirs.
		room := make([]int, len(b)+100)
		before := room[:copy(room, b)]
		results, again := calls(g, before), calls(g, before)
		bed.Until(g, before, 0, 0, 5)
		bed.Spread(before)
		if !slices.Equal(room, append(slices.Clone(b), equal(100, 0)...)) {
			t.Fatalf("the calls change %v to %v", b, room)
		}
		for name, list := range results {
			clear(list)
			if !slices.Equal(before, b) {
				t.Fatalf("%s returns the memory of its argument", name)
			}
		}
		clear(before)
		for name, list := range calls(g, b) {
			if !slices.Equal(list, again[name]) {
				t.Fatalf("%s is %v, and was %v", name, list, again[name])
			}
		}
	}
}
