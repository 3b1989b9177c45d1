package plan_test

import (
	"math"
	"math/rand"
	"reflect"
	"slices"
	"testing"

	"acrospire/api"
	"acrospire/plan"
)

// The tests compare with a plain reading of the chapter, which tries all starts and all
// vessels.

// A task is a house and its batches.
type task struct {
	vessels []int
	batches []api.Batch
}

func (k task) clone() task {
	batches := slices.Clone(k.batches)
	for i, b := range batches {
		batches[i].Times = slices.Clone(b.Times)
	}
	return task{slices.Clone(k.vessels), batches}
}

// with returns the task with one more batch, before which there are i others.
func (k task) with(i int, b api.Batch) task {
	return task{k.vessels, slices.Insert(slices.Clone(k.batches), i, b)}
}

// without returns the task without batch i.
func (k task) without(i int) task {
	return task{k.vessels, slices.Delete(slices.Clone(k.batches), i, i+1)}
}

func house(vessels ...int) []int {
	return vessels
}

func batch(ready int, times ...int) api.Batch {
	return api.Batch{Ready: ready, Times: times}
}

func taskOf(vessels []int, batches ...api.Batch) task {
	return task{vessels, batches}
}

// begin returns when a batch with that start begins a stage; it ends the last one when
// it would begin one more.
func begin(b api.Batch, start, stage int) int {
	for _, time := range b.Times[:stage] {
		start += time
	}
	return start
}

// together tells whether two batches are in a stage at the same time.
func together(k task, starts []int, stage, i, j int) bool {
	one, other := k.batches[i], k.batches[j]
	return begin(one, starts[i], stage) < begin(other, starts[j], stage+1) &&
		begin(other, starts[j], stage) < begin(one, starts[i], stage+1)
}

// endOf returns when the last batch ends.
func endOf(k task, starts []int) int {
	end := 0
	for i, b := range k.batches {
		end = max(end, begin(b, starts[i], len(b.Times)))
	}
	return end
}

// isFeasible tells whether a schedule of small numbers is feasible.
func isFeasible(k task, s api.Schedule) bool {
	if len(s.Starts) != len(k.batches) || len(s.Vessels) != len(k.batches) {
		return false
	}
	for i, b := range k.batches {
		if s.Starts[i] < b.Ready || len(s.Vessels[i]) != len(k.vessels) {
			return false
		}
		for stage, vessel := range s.Vessels[i] {
			if vessel < 0 || vessel > k.vessels[stage]-1 {
				return false
			}
			for j := range i {
				if s.Vessels[j][stage] == vessel && together(k, s.Starts, stage, i, j) {
					return false
				}
			}
		}
	}
	return s.End == endOf(k, s.Starts)
}

// canShare tells whether the batches from i on find vessels of a stage, whichever the
// ones before them have.
func canShare(k task, starts []int, stage int, chosen []int) bool {
	i := len(chosen)
	if i == len(k.batches) {
		return true
	}
	for vessel := range k.vessels[stage] {
		taken := false
		for j, other := range chosen {
			taken = taken || other == vessel && together(k, starts, stage, i, j)
		}
		if !taken && canShare(k, starts, stage, append(slices.Clone(chosen), vessel)) {
			return true
		}
	}
	return false
}

// arePossible tells whether a feasible schedule has these starts.
func arePossible(k task, starts []int) bool {
	for i, b := range k.batches {
		if starts[i] < b.Ready {
			return false
		}
	}
	for stage := range k.vessels {
		if !canShare(k, starts, stage, nil) {
			return false
		}
	}
	return true
}

// allStarts calls visit for all starts up to a time, in lexicographic order, until it
// returns false.
func allStarts(batches, last int, visit func(starts []int) bool) bool {
	starts := make([]int, batches)
	for {
		if !visit(starts) {
			return false
		}
		i := batches - 1
		for i >= 0 && starts[i] == last {
			starts[i] = 0
			i--
		}
		if i < 0 {
			return true
		}
		starts[i]++
	}
}

// leastStarts returns the End and the Starts of the best schedule, if it ends by a time.
func leastStarts(k task, last int) (int, []int, bool) {
	best, end := []int(nil), last+1
	allStarts(len(k.batches), last, func(starts []int) bool {
		if e := endOf(k, starts); e < end && arePossible(k, starts) {
			best, end = slices.Clone(starts), e
		}
		return true
	})
	return end, best, end <= last
}

// vesselsFor returns the vessels that the best schedule has for its starts.
func vesselsFor(k task, starts []int) [][]int {
	vessels := make([][]int, len(k.batches))
	for stage := range k.vessels {
		var before []int
		for t := range 100 {
			for i, b := range k.batches {
				if begin(b, starts[i], stage) != t {
					continue
				}
				vessels[i] = append(vessels[i], lowest(k, starts, stage, i, before, vessels))
				before = append(before, i)
			}
		}
	}
	return vessels
}

// lowest returns the vessel with the lowest number that no batch before i has.
func lowest(k task, starts []int, stage, i int, before []int, vessels [][]int) int {
	vessel := 0
	for slices.ContainsFunc(before, func(j int) bool {
		return vessels[j][stage] == vessel && together(k, starts, stage, i, j)
	}) {
		vessel++
	}
	return vessel
}

// best returns the best schedule of a task that has one, which must be feasible and have
// the right vessels.
func best(t *testing.T, k task) api.Schedule {
	t.Helper()
	s, e := plan.Best(k.vessels, k.batches)
	if e != api.OK || !isFeasible(k, s) || s.End > api.MaxHorizon {
		t.Fatalf("Best(%v) = %v, %d", k, s, e)
	}
	if want := vesselsFor(k, s.Starts); !reflect.DeepEqual(s.Vessels, want) {
		t.Fatalf("Best(%v) = %v, want the vessels %v", k, s, want)
	}
	return s
}

// mustBest checks the End and the Starts of a best schedule.
func mustBest(t *testing.T, k task, end int, starts ...int) {
	t.Helper()
	if s := best(t, k); s.End != end || !slices.Equal(s.Starts, starts) {
		t.Errorf("Best(%v) = %v, want %v until %d", k, s, starts, end)
	}
}

// mustFail checks that there is no best schedule.
func mustFail(t *testing.T, k task, want api.Errno) {
	t.Helper()
	if s, e := plan.Best(k.vessels, k.batches); e != want || !isZero(s) {
		t.Errorf("Best(%v) = %v, %d, want %d", k, s, e, want)
	}
}

func isZero(s api.Schedule) bool {
	return s.End == 0 && len(s.Starts) == 0 && len(s.Vessels) == 0
}

// random returns a task of at most so many batches, whose vessels, times and times of
// being ready are at most so many.
func random(r *rand.Rand, batches, vessels, time, ready int) task {
	k := task{vessels: make([]int, 1+r.Intn(api.MaxStages))}
	for i := range k.vessels {
		k.vessels[i] = 1 + r.Intn(vessels)
	}
	for range r.Intn(batches + 1) {
		b := batch(r.Intn(ready+1), make([]int, len(k.vessels))...)
		for i := range b.Times {
			b.Times[i] = 1 + r.Intn(time)
		}
		k.batches = append(k.batches, b)
	}
	return k
}

// full returns a random task of five batches for few vessels.
func full(r *rand.Rand) task {
	time, ready := 1+r.Intn(12), r.Intn(6)
	for {
		if k := random(r, 5, 1+r.Intn(3), time, ready); len(k.batches) == 5 {
			return k
		}
	}
}

// invalid returns what is not a task.
func invalid() map[string]task {
	one := batch(0, 1)
	list := map[string]task{
		"nil":             {},
		"no stages":       taskOf(house()),
		"batch, no stage": taskOf(house(), batch(0)),
		"four stages":     taskOf(house(1, 1, 1, 1)),
		"four stages, 4":  taskOf(house(1, 1, 1, 1), batch(0, 1, 1, 1, 1)),
		"many stages":     taskOf(make([]int, 100000)),
		"six batches":     taskOf(house(8), one, one, one, one, one, one),
		"many batches":    taskOf(house(8), slices.Repeat([]api.Batch{one}, 100000)...),
		"nil times":       taskOf(house(1), batch(0)),
		"times too few":   taskOf(house(1, 1), batch(0, 1)),
		"times too many":  taskOf(house(1), batch(0, 1, 1)),
		"many times":      taskOf(house(1), batch(0, slices.Repeat([]int{1}, 100000)...)),
	}
	for name, n := range map[string]int{"0": 0, "-1": -1, "9": 9, "greatest": math.MaxInt, "least": math.MinInt} {
		list["vessels "+name] = taskOf(house(n), one)
		list["no batches, vessels "+name] = taskOf(house(n))
		list["vessels of the last stage "+name] = taskOf(house(1, 1, n), batch(0, 1, 1, 1))
	}
	for name, n := range map[string]int{"-1": -1, "31": 31, "greatest": math.MaxInt, "least": math.MinInt} {
		list["ready "+name] = taskOf(house(1), batch(n, 1))
		list["last ready "+name] = taskOf(house(8), one, one, one, one, batch(n, 1))
	}
	for name, n := range map[string]int{"0": 0, "-1": -1, "31": 31, "greatest": math.MaxInt, "least": math.MinInt} {
		list["time "+name] = taskOf(house(1), batch(0, n))
		list["last time "+name] = taskOf(house(1, 1, 1), batch(0, 1, 1, 1), batch(0, 1, 1, n))
		list["too late, and time "+name] = taskOf(house(1), batch(30, 30), batch(0, n))
	}
	return list
}

// unchanged checks that calls leave a task as it was.
func unchanged(t *testing.T, k task, calls func()) {
	t.Helper()
	before := k.clone()
	calls()
	if !reflect.DeepEqual(k, before) {
		t.Errorf("%v became %v", before, k)
	}
}
