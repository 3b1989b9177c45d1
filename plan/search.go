package plan

import "acrospire/api"

// starts has the start of each batch, and zeros behind them.
type starts [api.MaxBatches]int

// nowhere stands for starts that do not exist: no batch starts before time 0.
var nowhere = starts{-1}

// A search tries starts with which all batches end by a time. It needs no vessels: if
// there are never more batches in a stage than vessels, then each one that comes finds a
// vessel that is free.
type search struct {
	vessels []int
	jobs    []job
	order   []int
	starts  starts
	crowds  [api.MaxStages][mostVessels]uint64 // by stage and k: when more than k batches are there
}

// A job is a batch as a search sees it. Sets of times have a bit for each time.
type job struct {
	first, last int                   // its starts; none if it cannot end in time
	times       [api.MaxStages]uint64 // by stage: when it is there if it starts at 0
}

func newSearch(vessels []int, batches []api.Batch, end int) *search {
	s := &search{vessels: vessels}
	for _, b := range batches {
		j := job{first: b.Ready, last: end - duration(b)}
		for stage, at := range stays(b, 0) {
			j.times[stage] = 1<<at.end - 1<<at.begin
		}
		s.jobs = append(s.jobs, j)
	}
	return s
}

// find returns the lexicographically least starts, those of the batches being compared
// in the given order, or nowhere.
func (s *search) find(order []int) starts {
	s.order = order
	if !s.place(0) {
		return nowhere
	}
	return s.starts
}

// place finds the least starts for the batches from place k of the order on, if there
// are any.
func (s *search) place(k int) bool {
	if k == len(s.order) {
		return true
	}
	i, before := s.order[k], s.crowds
	for start := s.next(i, 0); start >= 0; start = s.next(i, start+1) {
		s.enter(i, start)
		s.starts[i] = start
		if s.hasRoomForEach(k+1) && s.place(k+1) {
			return true
		}
		s.crowds = before
	}
	return false
}

// hasRoomForEach tells whether each batch from place k of the order on, if it were the
// only one left, could start.
func (s *search) hasRoomForEach(k int) bool {
	for _, i := range s.order[k:] {
		if s.next(i, 0) < 0 {
			return false
		}
	}
	return true
}

// next returns the least time from a time on at which a batch can start, or -1.
func (s *search) next(i, from int) int {
	for start := max(from, s.jobs[i].first); start <= s.jobs[i].last; start++ {
		if s.hasRoom(i, start) {
			return start
		}
	}
	return -1
}

func (s *search) hasRoom(i, start int) bool {
	for stage, most := range s.vessels {
		if s.crowds[stage][most-1]&(s.jobs[i].times[stage]<<start) != 0 {
			return false
		}
	}
	return true
}

// enter adds a batch to the crowds: where there were more than k, there are now more
// than k+1.
func (s *search) enter(i, start int) {
	for stage, times := range s.jobs[i].times {
		more := times << start
		for k, some := range s.crowds[stage] {
			s.crowds[stage][k] = some | more
			more &= some
		}
	}
}
