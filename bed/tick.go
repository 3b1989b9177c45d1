package bed

import (
	"iter"

	"acrospire/api"
)

// tick stores the bed after a tick, and returns what the top cell lost. The flows depend on
// the bed before the tick alone, so that after must be memory of its own.
func tick(g api.Grain, before, after []int) int {
	copy(after, before)
	for upper, lower := range neighbors(before) {
		// The division of Go rounds toward 0, as the flow is to be rounded.
		flow := (before[upper] - before[lower]) * g.Num / g.Den
		after[upper] -= flow
		after[lower] += flow
	}
	lost := before[0] * g.Loss / g.Den
	after[0] -= lost
	return lost
}

// neighbors visits the pairs of a cell and the one below it.
func neighbors(cells []int) iter.Seq2[int, int] {
	return func(yield func(upper, lower int) bool) {
		for lower := 1; lower < len(cells); lower++ {
			if !yield(lower-1, lower) {
				return
			}
		}
	}
}

func duplicate(cells []int) []int {
	bed := make([]int, len(cells))
	copy(bed, cells)
	return bed
}
