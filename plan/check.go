package plan

import (
	"math"

	"acrospire/api"
)

// Check tells whether s is a feasible schedule.
func Check(vessels []int, batches []api.Batch, s api.Schedule) api.Errno {
	if !isTask(vessels, batches) {
		return api.ErrArg
	}
	if !isFeasible(vessels, batches, s) {
		return api.ErrAnswer
	}
	return api.OK
}

func isFeasible(vessels []int, batches []api.Batch, s api.Schedule) bool {
	if len(s.Starts) != len(batches) || len(s.Vessels) != len(batches) {
		return false
	}
	end := 0
	for i, b := range batches {
		if !isStart(b, s.Starts[i]) || !areVessels(vessels, s.Vessels[i]) {
			return false
		}
		end = max(end, s.Starts[i]+duration(b))
		for j := range i {
			if clash(batches, s, i, j) {
				return false
			}
		}
	}
	return s.End == end
}

// isStart tells whether a batch can start at a time. If it would end later than any int
// can say, no End is right.
func isStart(b api.Batch, start int) bool {
	return start >= b.Ready && start <= math.MaxInt-duration(b)
}

func areVessels(vessels, chosen []int) bool {
	if len(chosen) != len(vessels) {
		return false
	}
	for stage, vessel := range chosen {
		if vessel < 0 || vessel >= vessels[stage] {
			return false
		}
	}
	return true
}

// clash tells whether two batches share a vessel at the same time.
func clash(batches []api.Batch, s api.Schedule, i, j int) bool {
	one, other := stays(batches[i], s.Starts[i]), stays(batches[j], s.Starts[j])
	for stage, vessel := range s.Vessels[i] {
		if vessel == s.Vessels[j][stage] && one[stage].meets(other[stage]) {
			return true
		}
	}
	return false
}
