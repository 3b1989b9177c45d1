package plan

import (
	"cmp"
	"slices"

	"acrospire/api"
)

// Best returns the best schedule.
func Best(vessels []int, batches []api.Batch) (api.Schedule, api.Errno) {
	if !isTask(vessels, batches) {
		return api.Schedule{}, api.ErrArg
	}
	search := func(order []int, end int) starts {
		return newSearch(vessels, batches, end).find(order)
	}
	end, found := leastEnd(batches, search)
	if found == nowhere {
		return api.Schedule{}, api.ErrHorizon
	}
	found = search(indices(len(batches)), end)
	list := slices.Clone(found[:len(batches)])
	return api.Schedule{End: end, Starts: list, Vessels: assign(vessels, batches, list)}, api.OK
}

// leastEnd returns the least end by which a search finds starts, and these. It takes the
// longest batches first, because the others seldom matter if there is no room for them.
func leastEnd(batches []api.Batch, search func(order []int, end int) starts) (int, starts) {
	order := indices(len(batches))
	orderBy(order, func(i int) int { return -duration(batches[i]) })
	for end := range api.MaxHorizon + 1 {
		if found := search(order, end); found != nowhere {
			return end, found
		}
	}
	return 0, nowhere
}

func indices(n int) []int {
	list := make([]int, n)
	for i := range n {
		list[i] = i
	}
	return list
}

// orderBy sorts indices by their keys. Those with equal keys stay in their order.
func orderBy(list []int, key func(i int) int) {
	slices.SortStableFunc(list, func(a, b int) int { return cmp.Compare(key(a), key(b)) })
}

// assign returns the vessels of batches that have starts for which there are enough.
func assign(vessels []int, batches []api.Batch, startOf []int) [][]int {
	lists := make([][]int, len(batches))
	for i := range lists {
		lists[i] = make([]int, len(vessels))
	}
	for stage, count := range vessels {
		visits := make([]stay, len(batches))
		for i, b := range batches {
			visits[i] = stays(b, startOf[i])[stage]
		}
		for i, vessel := range firstFree(visits, count) {
			lists[i][stage] = vessel
		}
	}
	return lists
}

// firstFree gives each stay, in the order in which they begin, the first of so many
// vessels that is free then.
func firstFree(visits []stay, count int) []int {
	order := indices(len(visits))
	orderBy(order, func(i int) int { return visits[i].begin })
	chosen := make([]int, len(visits))
	freeFrom := make([]int, count)
	for _, i := range order {
		vessel := slices.IndexFunc(freeFrom, func(t int) bool { return t <= visits[i].begin })
		chosen[i] = vessel
		freeFrom[vessel] = visits[i].end
	}
	return chosen
}
