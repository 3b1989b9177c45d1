package plan_test

import (
	"math"
	"math/rand"
	"reflect"
	"slices"
	"testing"

	"acrospire/api"
	"acrospire/plan"
)

func schedule(end int, starts []int, vessels ...[]int) api.Schedule {
	return api.Schedule{End: end, Starts: starts, Vessels: vessels}
}

// mustCheck checks what Check returns for a schedule.
func mustCheck(t *testing.T, k task, s api.Schedule, want api.Errno) {
	t.Helper()
	if e := plan.Check(k.vessels, k.batches, s); e != want {
		t.Errorf("Check(%v, %v) = %d, want %d", k, s, e, want)
	}
}

func TestCheckFeasible(t *testing.T) {
	k := taskOf(house(1), batch(0, 3), batch(0, 2))
	mustCheck(t, k, schedule(5, []int{0, 3}, []int{0}, []int{0}), api.OK)
	mustCheck(t, k, schedule(5, []int{2, 0}, []int{0}, []int{0}), api.OK)
	mustCheck(t, k, schedule(9, []int{6, 1}, []int{0}, []int{0}), api.OK)
	mustCheck(t, k, schedule(1000003, []int{1000000, 1}, []int{0}, []int{0}), api.OK)
	two := taskOf(house(2, 1), batch(0, 2, 3), batch(1, 2, 3))
	mustCheck(t, two, schedule(8, []int{0, 3}, []int{1, 0}, []int{1, 0}), api.OK)
	mustCheck(t, two, schedule(8, []int{0, 3}, []int{1, 0}, []int{0, 0}), api.OK)
	mustCheck(t, two, schedule(9, []int{4, 1}, []int{1, 0}, []int{0, 0}), api.OK)
	eight := taskOf(house(8), batch(30, 30))
	mustCheck(t, eight, schedule(60, []int{30}, []int{7}), api.OK)
}

func TestCheckWithoutBatches(t *testing.T) {
	for _, batches := range [][]api.Batch{nil, {}} {
		k := task{house(1, 2), batches}
		mustCheck(t, k, api.Schedule{}, api.OK)
		mustCheck(t, k, schedule(0, []int{}, [][]int{}...), api.OK)
		mustCheck(t, k, schedule(1, nil), api.ErrAnswer)
		mustCheck(t, k, schedule(-1, nil), api.ErrAnswer)
		mustCheck(t, k, schedule(0, []int{0}), api.ErrAnswer)
		mustCheck(t, k, schedule(0, nil, nil), api.ErrAnswer)
	}
}

func TestCheckLengths(t *testing.T) {
	k := taskOf(house(2, 1), batch(0, 2, 3), batch(1, 2, 3))
	right, other := []int{0, 0}, []int{1, 0}
	mustCheck(t, k, schedule(8, []int{0, 3}, right, other), api.OK)
	mustCheck(t, k, schedule(8, []int{0}, right, other), api.ErrAnswer)
	mustCheck(t, k, schedule(8, []int{0, 3, 8}, right, other), api.ErrAnswer)
	mustCheck(t, k, schedule(8, nil, right, other), api.ErrAnswer)
	mustCheck(t, k, schedule(8, []int{0, 3}, right), api.ErrAnswer)
	mustCheck(t, k, schedule(8, []int{0, 3}), api.ErrAnswer)
	mustCheck(t, k, schedule(8, []int{0, 3}, right, other, right), api.ErrAnswer)
	mustCheck(t, k, schedule(8, []int{0, 3}, right, nil), api.ErrAnswer)
	mustCheck(t, k, schedule(8, []int{0, 3}, right, []int{1}), api.ErrAnswer)
	mustCheck(t, k, schedule(8, []int{0, 3}, right, []int{1, 0, 0}), api.ErrAnswer)
	mustCheck(t, k, schedule(8, []int{0, 3}, nil, other), api.ErrAnswer)
	mustCheck(t, k, api.Schedule{}, api.ErrAnswer)
}

func TestCheckEnd(t *testing.T) {
	k := taskOf(house(2), batch(0, 3), batch(2, 5), batch(0, 4))
	for end := range 20 {
		want := api.ErrAnswer
		if end == 7 {
			want = api.OK
		}
		mustCheck(t, k, schedule(end, []int{0, 2, 3}, []int{0}, []int{1}, []int{0}), want)
	}
	for _, end := range []int{-1, -7, math.MinInt, math.MaxInt} {
		mustCheck(t, k, schedule(end, []int{0, 2, 3}, []int{0}, []int{1}, []int{0}), api.ErrAnswer)
	}
}

func TestCheckReady(t *testing.T) {
	k := taskOf(house(2), batch(3, 2), batch(1, 2))
	mustCheck(t, k, schedule(5, []int{3, 1}, []int{0}, []int{0}), api.OK)
	mustCheck(t, k, schedule(5, []int{3, 0}, []int{0}, []int{0}), api.ErrAnswer)
	mustCheck(t, k, schedule(4, []int{2, 1}, []int{0}, []int{1}), api.ErrAnswer)
	mustCheck(t, k, schedule(5, []int{3, -4}, []int{0}, []int{0}), api.ErrAnswer)
	mustCheck(t, k, schedule(5, []int{3, math.MinInt}, []int{0}, []int{0}), api.ErrAnswer)
	zero := taskOf(house(1), batch(0, 1))
	mustCheck(t, zero, schedule(0, []int{-1}, []int{0}), api.ErrAnswer)
}

func TestCheckVesselNumbers(t *testing.T) {
	k := taskOf(house(3, 2), batch(0, 1, 1))
	for _, vessels := range [][]int{{0, 0}, {2, 1}, {1, 1}} {
		mustCheck(t, k, schedule(2, []int{0}, vessels), api.OK)
	}
	for _, vessels := range [][]int{{3, 0}, {2, 2}, {-1, 0}, {0, -1}, {math.MaxInt, 0}, {0, math.MinInt}} {
		mustCheck(t, k, schedule(2, []int{0}, vessels), api.ErrAnswer)
	}
}

// Any two batches, in any stage, may not share a vessel at the same time.
func TestCheckSharedVessels(t *testing.T) {
	k := taskOf(house(3, 3, 3), batch(0, 2, 2, 2), batch(0, 2, 2, 2), batch(0, 2, 2, 2))
	for stage := range 3 {
		for i := range 3 {
			for j := range i {
				s := schedule(6, []int{0, 0, 0}, []int{0, 1, 2}, []int{1, 2, 0}, []int{2, 0, 1})
				mustCheck(t, k, s, api.OK)
				s.Vessels[i][stage] = s.Vessels[j][stage]
				mustCheck(t, k, s, api.ErrAnswer)
				s.End, s.Starts[i] = 7, 1
				mustCheck(t, k, s, api.ErrAnswer)
				s.End, s.Starts[i] = 8, 2
				mustCheck(t, k, s, api.OK)
				s.Starts[i], s.Starts[j] = 0, 2
				mustCheck(t, k, s, api.OK)
				s.End, s.Starts[j] = 7, 1
				mustCheck(t, k, s, api.ErrAnswer)
			}
		}
	}
	// One is there all the time that the other is.
	long := taskOf(house(2), batch(0, 9), batch(0, 1))
	mustCheck(t, long, schedule(9, []int{0, 4}, []int{1}, []int{1}), api.ErrAnswer)
	mustCheck(t, long, schedule(9, []int{0, 8}, []int{1}, []int{1}), api.ErrAnswer)
	mustCheck(t, long, schedule(10, []int{0, 9}, []int{1}, []int{1}), api.OK)
	mustCheck(t, long, schedule(9, []int{0, 4}, []int{1}, []int{0}), api.OK)
}

// No End is right for a batch that ends later than the greatest int.
func TestCheckLatestStarts(t *testing.T) {
	k := taskOf(house(1, 1), batch(0, 2, 3), batch(0, 1, 1))
	vessels := [][]int{{0, 0}, {0, 0}}
	mustCheck(t, k, schedule(math.MaxInt, []int{math.MaxInt - 5, 0}, vessels...), api.OK)
	mustCheck(t, k, schedule(math.MaxInt, []int{0, math.MaxInt - 2}, vessels...), api.OK)
	mustCheck(t, k, schedule(math.MaxInt, []int{math.MaxInt - 5, math.MaxInt - 4}, vessels...), api.ErrAnswer)
	mustCheck(t, k, schedule(math.MaxInt, []int{math.MaxInt - 5, math.MaxInt - 9}, vessels...), api.OK)
	for _, start := range []int{math.MaxInt - 4, math.MaxInt - 2, math.MaxInt} {
		for _, end := range []int{0, 2, 5, start, start + 2, start + 5, math.MaxInt, math.MinInt} {
			mustCheck(t, k, schedule(end, []int{start, 0}, vessels...), api.ErrAnswer)
			mustCheck(t, k, schedule(end, []int{start, 10}, vessels...), api.ErrAnswer)
		}
	}
}

func TestCheckErrArg(t *testing.T) {
	for name, k := range invalid() {
		count := len(k.batches)
		right := schedule(1, make([]int, count), make([][]int, count)...)
		for i := range count {
			right.Starts[i] = k.batches[i].Ready
			right.Vessels[i] = make([]int, len(k.vessels))
		}
		for _, s := range []api.Schedule{{}, right, schedule(-1, []int{-1}, nil, nil)} {
			if e := plan.Check(k.vessels, k.batches, s); e != api.ErrArg {
				t.Errorf("%s: %d", name, e)
			}
		}
	}
}

// spoil changes a schedule somewhere, or leaves it.
func spoil(r *rand.Rand, s api.Schedule) api.Schedule {
	i := r.Intn(len(s.Starts))
	switch r.Intn(4) {
	case 0:
		s.End += r.Intn(3) - 1
	case 1:
		s.Starts[i] += r.Intn(5) - 2
	case 2:
		s.Vessels[i][r.Intn(len(s.Vessels[i]))] = r.Intn(4) - 1
	case 3:
		s.End++
		for j := range s.Starts {
			s.Starts[j]++
		}
	}
	return s
}

func TestCheckRandomSchedules(t *testing.T) {
	r := rand.New(rand.NewSource(61))
	count := map[bool]int{}
	for range 3000 {
		k := random(r, 5, 3, 4, 3)
		s, e := plan.Best(k.vessels, k.batches)
		if e != api.OK || len(k.batches) == 0 {
			continue
		}
		for range 5 {
			want := api.ErrAnswer
			if isFeasible(k, s) {
				want = api.OK
			}
			mustCheck(t, k, s, want)
			count[want == api.OK]++
			s = spoil(r, s)
		}
	}
	if count[true] < 3000 || count[false] < 3000 {
		t.Errorf("feasible: %v", count)
	}
}

func TestCheckChangesNothing(t *testing.T) {
	k := taskOf(house(2, 1), batch(0, 2, 3), batch(1, 2, 3))
	for _, end := range []int{8, 9} {
		s := schedule(end, []int{0, 3}, []int{1, 0}, []int{0, 0})
		before := schedule(end, slices.Clone(s.Starts), []int{1, 0}, []int{0, 0})
		unchanged(t, k, func() { plan.Check(k.vessels, k.batches, s) })
		if !reflect.DeepEqual(s, before) {
			t.Errorf("%v became %v", before, s)
		}
	}
}
