package plan_test

import (
	"math"
	"math/rand"
	"reflect"
	"slices"
	"testing"

	"acrospire/api"
	"acrospire/plan"
	"acrospire/sat"
)

// An encoding is what Encode returned.
type encoding struct {
	n       int
	clauses [][]int
	starts  [][]int
}

// encoded returns the formula of a task, which must be valid, and have the starts that
// it must have.
func encoded(t *testing.T, k task, end int) encoding {
	t.Helper()
	n, clauses, starts, e := plan.Encode(k.vessels, k.batches, end)
	if e != api.OK {
		t.Fatalf("Encode(%v, %d): %d", k, end, e)
	}
	if e := sat.Check(n, clauses, api.Verdict{Status: api.Unknown}); e != api.OK {
		t.Fatalf("Encode(%v, %d): the formula is not valid: %d", k, end, e)
	}
	if len(starts) != len(k.batches) {
		t.Fatalf("Encode(%v, %d): starts %v", k, end, starts)
	}
	listed := map[int]bool{}
	for i, b := range k.batches {
		if len(starts[i]) != end+1 {
			t.Fatalf("Encode(%v, %d): starts %v", k, end, starts)
		}
		for start, v := range starts[i] {
			fits := start >= b.Ready && begin(b, start, len(b.Times)) <= end
			if fits != (v != 0) || v < 0 || v > n || listed[v] {
				t.Fatalf("Encode(%v, %d): starts %v", k, end, starts)
			}
			listed[v] = v != 0
		}
	}
	return encoding{n, clauses, starts}
}

// status returns the status of the formula with further literals that must be true.
func (f encoding) status(t *testing.T, literals ...int) (int, []bool) {
	t.Helper()
	clauses := slices.Clone(f.clauses)
	for _, literal := range literals {
		clauses = append(clauses, []int{literal})
	}
	v, e := sat.Solve(f.n, clauses, api.MaxBudget)
	if e != api.OK || v.Status == api.Unknown || sat.Check(f.n, clauses, v) != api.OK {
		t.Fatalf("Solve: status %d, %d", v.Status, e)
	}
	return v.Status, v.Model
}

// exactly returns the literals that say that the batches have these starts, and no
// others, or false if one of them is not listed.
func (f encoding) exactly(starts []int) ([]int, bool) {
	var literals []int
	for i, list := range f.starts {
		if list[starts[i]] == 0 {
			return nil, false
		}
		for start, v := range list {
			switch {
			case start == starts[i]:
				literals = append(literals, v)
			case v != 0:
				literals = append(literals, -v)
			}
		}
	}
	return literals, true
}

// startsOf returns the starts that a model says; there must be one for each batch.
func (f encoding) startsOf(t *testing.T, model []bool) []int {
	t.Helper()
	starts := make([]int, len(f.starts))
	for i, list := range f.starts {
		count := 0
		for start, v := range list {
			if v != 0 && model[v-1] {
				starts[i] = start
				count++
			}
		}
		if count != 1 {
			t.Fatalf("batch %d has %d starts", i, count)
		}
	}
	return starts
}

func TestEncodeExamples(t *testing.T) {
	for _, c := range []struct {
		task task
		end  int
	}{
		{taskOf(house(1), batch(0, 3), batch(0, 2)), 5},
		{taskOf(house(1, 1), batch(0, 2, 3), batch(0, 2, 3)), 8},
		{taskOf(house(2), batch(0, 3), batch(0, 2), batch(0, 2)), 4},
		{taskOf(house(1), batch(29, 1)), 30},
		{taskOf(house(1), batch(0, 30)), 30},
	} {
		for end := range api.MaxHorizon + 1 {
			want := api.Refuted
			if end >= c.end {
				want = api.Satisfied
			}
			if got, _ := encoded(t, c.task, end).status(t); got != want {
				t.Errorf("Encode(%v, %d): status %d, want %d", c.task, end, got, want)
			}
		}
	}
}

func TestEncodeWithoutBatches(t *testing.T) {
	for _, batches := range [][]api.Batch{nil, {}} {
		for _, end := range []int{0, 1, 30} {
			f := encoded(t, task{house(1, 2), batches}, end)
			if got, _ := f.status(t); got != api.Satisfied {
				t.Errorf("end %d: status %d", end, got)
			}
		}
	}
}

func TestEncodeBatchThatCannotEnd(t *testing.T) {
	for _, k := range []task{
		taskOf(house(1), batch(30, 1)),
		taskOf(house(8), batch(0, 1), batch(1, 30)),
		taskOf(house(8, 8, 8), batch(0, 10, 10, 11), batch(0, 1, 1, 1)),
		taskOf(house(8, 8, 8), batch(30, 30, 30, 30)),
	} {
		for _, end := range []int{0, 1, 15, 30} {
			if got, _ := encoded(t, k, end).status(t); got != api.Refuted {
				t.Errorf("Encode(%v, %d): status %d", k, end, got)
			}
		}
	}
}

// All starts are tried: they make a model possible if and only if a feasible schedule
// has them.
func TestEncodeAllStarts(t *testing.T) {
	r := rand.New(rand.NewSource(71))
	count := map[bool]int{}
	for i := range 120 {
		k, end := random(r, 3, 2, 3, 2), 4+r.Intn(4)
		if i%4 == 0 {
			k, end = random(r, 4, 3, 2, 1), 4
		}
		f := encoded(t, k, end)
		allStarts(len(k.batches), end, func(starts []int) bool {
			literals, listed := f.exactly(starts)
			if !listed {
				return true
			}
			possible := arePossible(k, starts)
			if got, _ := f.status(t, literals...); (got == api.Satisfied) != possible {
				t.Fatalf("Encode(%v, %d), starts %v: status %d", k, end, starts, got)
			}
			count[possible]++
			return true
		})
	}
	if count[true] < 500 || count[false] < 500 {
		t.Errorf("starts %v", count)
	}
}

// No model has two starts of a batch, or none.
func TestEncodeOneStartPerBatch(t *testing.T) {
	r := rand.New(rand.NewSource(72))
	for range 60 {
		k := random(r, 4, 2, 3, 2)
		f := encoded(t, k, 9)
		for _, list := range f.starts {
			var none []int
			for start, v := range list {
				if v == 0 {
					continue
				}
				none = append(none, -v)
				for _, other := range list[:start] {
					if other == 0 {
						continue
					}
					if got, _ := f.status(t, v, other); got != api.Refuted {
						t.Fatalf("Encode(%v): %d and %d may both be true", k, v, other)
					}
				}
			}
			if got, _ := f.status(t, none...); got != api.Refuted {
				t.Fatalf("Encode(%v): %v may all be true", k, none)
			}
		}
	}
}

// The formula has a model from the least End on, and its starts are those of a feasible
// schedule.
func TestEncodeLeastEnd(t *testing.T) {
	r := rand.New(rand.NewSource(73))
	count := map[api.Errno]int{}
	for range 400 {
		k := full(r)
		s, e := plan.Best(k.vessels, k.batches)
		count[e]++
		if e != api.OK {
			if got, _ := encoded(t, k, api.MaxHorizon).status(t); got != api.Refuted {
				t.Fatalf("Best(%v): %d, but there is a model", k, e)
			}
			continue
		}
		if got, _ := encoded(t, k, s.End-1).status(t); got != api.Refuted {
			t.Fatalf("Best(%v) = %v is not best", k, s)
		}
		for _, end := range []int{s.End, min(s.End+3, api.MaxHorizon), api.MaxHorizon} {
			f := encoded(t, k, end)
			got, model := f.status(t)
			if got != api.Satisfied {
				t.Fatalf("Encode(%v, %d): status %d", k, end, got)
			}
			if starts := f.startsOf(t, model); !arePossible(k, starts) || endOf(k, starts) > end {
				t.Fatalf("Encode(%v, %d): a model with the starts %v", k, end, starts)
			}
		}
	}
	if count[api.OK] < 50 || count[api.ErrHorizon] < 50 {
		t.Errorf("results of Best: %v", count)
	}
}

// No batch can start earlier while the ones before it start as in the best schedule.
func TestEncodeLeastStarts(t *testing.T) {
	r := rand.New(rand.NewSource(74))
	for range 150 {
		k := full(r)
		s, e := plan.Best(k.vessels, k.batches)
		if e != api.OK {
			continue
		}
		f := encoded(t, k, s.End)
		var before []int
		for i, start := range s.Starts {
			later := slices.Clone(before)
			for _, v := range f.starts[i][start:] {
				if v != 0 {
					later = append(later, -v)
				}
			}
			if got, _ := f.status(t, later...); got != api.Refuted {
				t.Fatalf("Best(%v) = %v: batch %d could start earlier", k, s, i)
			}
			before = append(before, f.starts[i][start])
		}
		if got, _ := f.status(t, before...); got != api.Satisfied {
			t.Fatalf("Best(%v) = %v: no model has these starts", k, s)
		}
	}
}

// The largest formulas are valid, too.
func TestEncodeLargest(t *testing.T) {
	for _, times := range [][]int{{1}, {30}, {1, 1}, {10, 10}, {1, 1, 1}, {5, 5, 5}, {28, 1, 1}, {1, 28, 1}, {1, 1, 28}} {
		b := batch(0, times...)
		for vessels := 1; vessels <= 8; vessels++ {
			k := taskOf(slices.Repeat([]int{vessels}, len(times)), b, b, b, b, b)
			encoded(t, k, api.MaxHorizon)
		}
	}
}

func TestEncodeErrArg(t *testing.T) {
	for name, k := range invalid() {
		for _, end := range []int{-1, 0, 30, 31} {
			mustRefuse(t, name, k, end)
		}
	}
	for _, end := range []int{-1, 31, 1000000, math.MaxInt, math.MinInt} {
		mustRefuse(t, "end", taskOf(house(1), batch(0, 1)), end)
		mustRefuse(t, "end, no batches", taskOf(house(1)), end)
	}
}

// mustRefuse checks that Encode returns ErrArg.
func mustRefuse(t *testing.T, name string, k task, end int) {
	t.Helper()
	n, clauses, starts, e := plan.Encode(k.vessels, k.batches, end)
	if e != api.ErrArg || n != 0 || len(clauses) != 0 || len(starts) != 0 {
		t.Errorf("%s, %d: %d, %d clauses, %d starts, %d", name, end, n, len(clauses), len(starts), e)
	}
}

func TestEncodeChangesAndKeepsNothing(t *testing.T) {
	k := taskOf(house(2, 1), batch(0, 2, 3), batch(1, 1, 2), batch(0, 4, 1))
	var first, second, third encoding
	unchanged(t, k, func() {
		first = encoded(t, k, 15)
		second = encoded(t, k, 15)
		third = encoded(t, k, 15)
	})
	// Each list of a result has memory of its own, also behind its end.
	for _, lists := range [][][]int{second.clauses, second.starts} {
		for i, list := range lists {
			_ = append(list, -77777)
			for j := range list {
				list[j] = 10000*i + j
			}
		}
		for i, list := range lists {
			for j, v := range list {
				if v != 10000*i+j {
					t.Fatalf("list %d shares memory", i)
				}
			}
		}
	}
	if !reflect.DeepEqual(first, third) {
		t.Errorf("%v became %v", third, first)
	}
}
