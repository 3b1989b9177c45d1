package plan_test

import (
	"math/rand"
	"reflect"
	"slices"
	"testing"

	"acrospire/api"
	"acrospire/plan"
)

func TestBestExamples(t *testing.T) {
	mustBest(t, taskOf(house(1), batch(0, 3), batch(0, 2)), 5, 0, 3)
	mustBest(t, taskOf(house(1, 1), batch(0, 2, 3), batch(0, 2, 3)), 8, 0, 3)
}

func TestBestWithoutBatches(t *testing.T) {
	for _, batches := range [][]api.Batch{nil, {}} {
		for _, vessels := range [][]int{{1}, {8}, {1, 8, 3}} {
			if s, e := plan.Best(vessels, batches); e != api.OK || !isZero(s) {
				t.Errorf("Best(%v, %v) = %v, %d", vessels, batches, s, e)
			}
		}
	}
}

func TestBestOfOneBatch(t *testing.T) {
	mustBest(t, taskOf(house(1), batch(0, 1)), 1, 0)
	mustBest(t, taskOf(house(3), batch(7, 2)), 9, 7)
	mustBest(t, taskOf(house(1, 2, 3), batch(4, 5, 6, 7)), 22, 4)
	mustBest(t, taskOf(house(8, 8, 8), batch(0, 10, 10, 10)), 30, 0)
}

// What ends when the other begins may have the same vessel.
func TestBestOneAfterTheOther(t *testing.T) {
	same := batch(0, 6)
	mustBest(t, taskOf(house(1), same, same, same, same, same), 30, 0, 6, 12, 18, 24)
	mustBest(t, taskOf(house(2), same, same, same, same, same), 18, 0, 0, 6, 6, 12)
	mustBest(t, taskOf(house(4), same, same, same, same, same), 12, 0, 0, 0, 0, 6)
	mustBest(t, taskOf(house(5), same, same, same, same, same), 6, 0, 0, 0, 0, 0)
	mustBest(t, taskOf(house(8), same, same, same, same, same), 6, 0, 0, 0, 0, 0)
}

// A batch does not wait between its stages, so that it may have to start later.
func TestBestNeverWaits(t *testing.T) {
	mustBest(t, taskOf(house(2, 1), batch(0, 2, 3), batch(0, 2, 3)), 8, 0, 3)
	mustBest(t, taskOf(house(1, 1), batch(0, 5, 1), batch(0, 1, 5)), 7, 1, 0)
	mustBest(t, taskOf(house(2, 2, 1), batch(0, 1, 1, 4), batch(0, 1, 1, 4), batch(0, 3, 3, 1)), 11, 0, 4, 4)
}

// With the least End, batch 0 starts as early as possible, then batch 1, and so on.
func TestBestIsLeast(t *testing.T) {
	mustBest(t, taskOf(house(1), batch(0, 2), batch(0, 3)), 5, 0, 2)
	mustBest(t, taskOf(house(1), batch(0, 2), batch(0, 2), batch(0, 1)), 5, 0, 2, 4)
	mustBest(t, taskOf(house(2), batch(0, 1), batch(0, 1), batch(0, 9)), 9, 0, 1, 0)
	mustBest(t, taskOf(house(1), batch(0, 2), batch(1, 3)), 5, 0, 2)
	mustBest(t, taskOf(house(1), batch(1, 3), batch(0, 1)), 4, 1, 0)
	mustBest(t, taskOf(house(2), batch(0, 2), batch(0, 3), batch(0, 3), batch(0, 4)), 6, 0, 0, 3, 2)
	// The least End comes first: batch 0 could start earlier if it did not matter.
	mustBest(t, taskOf(house(1), batch(0, 3), batch(0, 1), batch(4, 1)), 5, 0, 3, 4)
	mustBest(t, taskOf(house(1), batch(1, 3), batch(0, 2), batch(0, 2)), 7, 2, 0, 5)
}

// Vessels are assigned in the order in which batches begin the stage, not in that of
// their indices.
func TestBestVessels(t *testing.T) {
	for _, c := range []struct {
		task    task
		vessels [][]int
	}{
		{taskOf(house(2), batch(1, 2), batch(0, 3)), [][]int{{1}, {0}}},
		{taskOf(house(2, 2), batch(0, 3, 1), batch(0, 1, 4)), [][]int{{0, 1}, {1, 0}}},
		{taskOf(house(2), batch(0, 3), batch(0, 2), batch(0, 2)), [][]int{{0}, {1}, {1}}},
		{taskOf(house(8), batch(0, 3), batch(0, 3), batch(3, 1)), [][]int{{0}, {1}, {0}}},
		{taskOf(house(8), batch(0, 4), batch(0, 2), batch(2, 2), batch(0, 1), batch(3, 1)), [][]int{{0}, {1}, {1}, {2}, {2}}},
		{taskOf(house(1, 8, 1), batch(0, 1, 1, 1), batch(0, 1, 1, 1)), [][]int{{0, 0, 0}, {0, 0, 0}}},
	} {
		if s := best(t, c.task); !reflect.DeepEqual(s.Vessels, c.vessels) {
			t.Errorf("Best(%v) = %v, want the vessels %v", c.task, s, c.vessels)
		}
	}
}

func TestBestHorizon(t *testing.T) {
	mustBest(t, taskOf(house(1), batch(0, 30)), 30, 0)
	mustBest(t, taskOf(house(1), batch(29, 1)), 30, 29)
	mustBest(t, taskOf(house(1), batch(0, 15), batch(0, 15)), 30, 0, 15)
	mustFail(t, taskOf(house(1), batch(30, 1)), api.ErrHorizon)
	mustFail(t, taskOf(house(8), batch(1, 30)), api.ErrHorizon)
	mustFail(t, taskOf(house(8, 8, 8), batch(30, 30, 30, 30)), api.ErrHorizon)
	mustFail(t, taskOf(house(8, 8, 8), batch(0, 1, 1, 1), batch(0, 10, 10, 11)), api.ErrHorizon)
	mustFail(t, taskOf(house(1), batch(0, 15), batch(0, 16)), api.ErrHorizon)
	mustFail(t, taskOf(house(1), batch(1, 15), batch(1, 15)), api.ErrHorizon)
	seven := batch(0, 7)
	mustFail(t, taskOf(house(1), seven, seven, seven, seven, seven), api.ErrHorizon)
	eleven := batch(0, 11)
	mustFail(t, taskOf(house(2), eleven, eleven, eleven, eleven, eleven), api.ErrHorizon)
	mustFail(t, taskOf(house(8, 8, 1), batch(0, 9, 9, 6), batch(0, 9, 9, 7)), api.ErrHorizon)
}

// Nearly all starts leave too little room here, so that a search can lose its way.
func TestBestOfLittleRoom(t *testing.T) {
	mustBest(t, taskOf(house(1), batch(2, 1), batch(0, 1), batch(2, 8), batch(2, 1), batch(1, 17)), 28, 18, 0, 19, 27, 1)
	mustFail(t, taskOf(house(1), batch(0, 1), batch(0, 1), batch(4, 7), batch(4, 10), batch(4, 10)), api.ErrHorizon)
	mustFail(t, taskOf(house(2), batch(0, 9), batch(0, 13), batch(0, 13), batch(0, 13), batch(0, 13)), api.ErrHorizon)
	mustFail(t, taskOf(house(2), batch(0, 12), batch(0, 12), batch(0, 12), batch(0, 12), batch(0, 12)), api.ErrHorizon)
}

func TestBestErrArg(t *testing.T) {
	for name, k := range invalid() {
		if s, e := plan.Best(k.vessels, k.batches); e != api.ErrArg || !isZero(s) {
			t.Errorf("%s: %v, %d", name, s, e)
		}
	}
}

// agrees checks a best schedule by trying all starts up to a time, and tells whether it
// ends by then.
func agrees(t *testing.T, k task, last int) bool {
	t.Helper()
	end, starts, ok := leastStarts(k, last)
	if ok {
		mustBest(t, k, end, starts...)
	} else if s, e := plan.Best(k.vessels, k.batches); e == api.OK && s.End <= last {
		t.Fatalf("Best(%v) = %v", k, s)
	}
	return ok
}

func TestBestTriesAllStarts(t *testing.T) {
	r := rand.New(rand.NewSource(51))
	count := map[bool]int{}
	for range 1000 {
		count[agrees(t, random(r, 3, 2, 1+r.Intn(5), r.Intn(4)), 14)]++
	}
	for range 500 {
		count[agrees(t, random(r, 4, 3, 3, 2), 12)]++
	}
	for range 100 {
		count[agrees(t, random(r, 5, 3, 2, 1), 7)]++
	}
	if count[true] < 1000 || count[false] < 30 {
		t.Errorf("tasks that end in time: %v", count)
	}
}

func TestBestChangesAndKeepsNothing(t *testing.T) {
	k := taskOf(house(2, 1), batch(0, 2, 3), batch(1, 1, 2), batch(0, 4, 1))
	var first, second api.Schedule
	unchanged(t, k, func() {
		first = best(t, k)
		second = best(t, k)
	})
	want := api.Schedule{End: first.End, Starts: slices.Clone(first.Starts)}
	for _, list := range first.Vessels {
		want.Vessels = append(want.Vessels, slices.Clone(list))
	}
	for i := range second.Starts {
		second.Starts[i] = -5
		_ = append(second.Vessels[i], 70)
		second.Vessels[i][0], second.Vessels[i][1] = 77, 77
		k.batches[i].Times[0] = 9
	}
	k.vessels[0] = 1
	if !reflect.DeepEqual(first, want) {
		t.Errorf("%v became %v", want, first)
	}
}
