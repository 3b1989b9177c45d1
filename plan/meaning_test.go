package plan_test

import (
	"math"
	"math/rand"
	"reflect"
	"slices"
	"testing"

	"acrospire/api"
	"acrospire/plan"
)

func TestBestIsFeasibleWithOneMoreVessel(t *testing.T) {
	r := rand.New(rand.NewSource(81))
	for range 1500 {
		k := random(r, 5, 3, 1+r.Intn(9), r.Intn(5))
		s, e := plan.Best(k.vessels, k.batches)
		if e != api.OK {
			continue
		}
		mustCheck(t, k, s, api.OK)
		for stage := range k.vessels {
			more := k.clone()
			more.vessels[stage]++
			mustCheck(t, more, s, api.OK)
			if other := best(t, more); other.End > s.End {
				t.Fatalf("Best(%v) = %v ends later than %v", more, other, s)
			}
		}
	}
}

func TestFurtherBatchDoesNotMakeEndLess(t *testing.T) {
	r := rand.New(rand.NewSource(82))
	longer := 0
	for range 1500 {
		k := random(r, 5, 2, 1+r.Intn(7), r.Intn(5))
		s, e := plan.Best(k.vessels, k.batches)
		if e != api.OK {
			continue
		}
		for i := range k.batches {
			less := k.without(i)
			other := best(t, less)
			if other.End > s.End {
				t.Fatalf("Best(%v) = %v, but Best(%v) = %v", k, s, less, other)
			}
			if other.End < s.End {
				longer++
			}
		}
	}
	if longer < 500 {
		t.Errorf("only %d batches that matter", longer)
	}
}

// A copy of a batch can only start later than the batch.
func TestCopyStartsLater(t *testing.T) {
	r := rand.New(rand.NewSource(83))
	for range 800 {
		k := random(r, 4, 2, 1+r.Intn(7), r.Intn(5))
		if len(k.batches) == 0 {
			continue
		}
		i := r.Intn(len(k.batches))
		j := i + 1 + r.Intn(len(k.batches)-i)
		k = k.with(j, k.batches[i])
		if s, e := plan.Best(k.vessels, k.batches); e == api.OK && s.Starts[i] > s.Starts[j] {
			t.Fatalf("Best(%v) = %v", k, s)
		}
	}
}

func TestLaterReadyMovesAll(t *testing.T) {
	r := rand.New(rand.NewSource(84))
	count := map[api.Errno]int{}
	for range 1500 {
		k := random(r, 5, 3, 1+r.Intn(7), r.Intn(5))
		s, e := plan.Best(k.vessels, k.batches)
		if e != api.OK || len(k.batches) == 0 {
			continue
		}
		by := 1 + r.Intn(25)
		later, want := k.clone(), s
		want.End += by
		want.Starts = slices.Clone(s.Starts)
		for i := range later.batches {
			later.batches[i].Ready += by
			want.Starts[i] += by
		}
		got, e := plan.Best(later.vessels, later.batches)
		count[e]++
		if want.End > api.MaxHorizon {
			if e != api.ErrHorizon {
				t.Fatalf("Best(%v) = %v, %d", later, got, e)
			}
		} else if e != api.OK || !reflect.DeepEqual(got, want) {
			t.Fatalf("Best(%v) = %v, %d, want %v", later, got, e, want)
		}
	}
	if count[api.OK] < 300 || count[api.ErrHorizon] < 100 {
		t.Errorf("results %v", count)
	}
}

// All functions take all arguments.
func TestAnyArguments(t *testing.T) {
	r := rand.New(rand.NewSource(85))
	numbers := []int{0, 1, 2, 3, 8, 9, 30, 31, -1, math.MaxInt, math.MinInt, math.MaxInt - 1, 1 << 31}
	wild := func() int { return numbers[r.Intn(len(numbers))] }
	small := func() int { return numbers[r.Intn(4)] }
	list := func(number func() int) []int {
		var result []int
		for range r.Intn(4) {
			result = append(result, number())
		}
		return result
	}
	for i := range 20000 {
		number := wild
		if i%2 == 0 {
			number = small
		}
		k := task{vessels: list(number)}
		var s api.Schedule
		for range r.Intn(4) {
			k.batches = append(k.batches, batch(number(), list(number)...))
			s.Starts = append(s.Starts, wild())
			s.Vessels = append(s.Vessels, list(number))
		}
		s.End = wild()
		if got, e := plan.Best(k.vessels, k.batches); e == api.OK && !isFeasible(k, got) {
			t.Fatalf("Best(%v) = %v", k, got)
		}
		plan.Check(k.vessels, k.batches, s)
		plan.Encode(k.vessels, k.batches, wild())
	}
}
