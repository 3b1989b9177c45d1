package plan

import (
	"acrospire/api"
	"acrospire/sat"
)

// Encode returns a formula for the schedules that end by a time: the number of its
// variables, its clauses, and by batch and time the variable that says that the batch
// starts then, or 0.
func Encode(vessels []int, batches []api.Batch, end int) (int, [][]int, [][]int, api.Errno) {
	if !isTask(vessels, batches) || end < 0 || end > api.MaxHorizon {
		return 0, nil, nil, api.ErrArg
	}
	f := formula{}
	lists := make([][]int, len(batches))
	for i, b := range batches {
		lists[i] = f.chooseStart(b, end)
	}
	for stage, most := range vessels {
		for t := range end {
			f.share(present(batches, lists, stage, t), most)
		}
	}
	return f.n, f.clauses, lists, api.OK
}

// A formula is one of layer 3 that grows.
type formula struct {
	n       int
	clauses [][]int
}

func (f *formula) newVariable() int {
	f.n++
	return f.n
}

func (f *formula) add(literals ...int) {
	f.clauses = append(f.clauses, literals)
}

// limit allows at most so many literals to be true. MaxAtoms is never reached: there are
// at most 150 starts, with one more variable for each, and 450 variables of share, with
// four more for each.
func (f *formula) limit(literals []int, most int) {
	clauses, n, _ := sat.AtMost(f.n, literals, most)
	f.clauses = append(f.clauses, clauses...)
	f.n = n
}

// chooseStart makes a variable for each start of a batch, exactly one of which is true.
func (f *formula) chooseStart(b api.Batch, end int) []int {
	list := make([]int, end+1)
	var choices []int
	for t := b.Ready; t+duration(b) <= end; t++ {
		list[t] = f.newVariable()
		choices = append(choices, list[t])
	}
	f.add(choices...)
	f.limit(choices, 1)
	return list
}

// present returns, for each batch that can be in a stage at a time, the starts with
// which it is.
func present(batches []api.Batch, lists [][]int, stage, t int) [][]int {
	var all [][]int
	for i, b := range batches {
		var some []int
		for start, v := range lists[i] {
			at := stays(b, start)[stage]
			if v != 0 && at.begin <= t && t < at.end {
				some = append(some, v)
			}
		}
		if len(some) > 0 {
			all = append(all, some)
		}
	}
	return all
}

// share allows at most so many batches to be somewhere with one of their starts.
func (f *formula) share(all [][]int, most int) {
	if len(all) <= most {
		return
	}
	var there []int
	for _, some := range all {
		batch := f.newVariable()
		there = append(there, batch)
		for _, start := range some {
			f.add(-start, batch)
		}
	}
	f.limit(there, most)
}
