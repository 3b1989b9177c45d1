package sat

import (
	"cmp"
	"slices"

	"acrospire/api"
)

// moreRoom is by how much the room for learned clauses grows.
const moreRoom = 500

// forget drops the worse half of the learned clauses, but those of one or two levels
// stay useful. Reasons can be dropped, too: they need not be watched to be analyzed.
func (s *search) forget() {
	orderBy(s.learned, (*clause).badness)
	half := len(s.learned) / 2
	kept := s.learned[:half]
	for _, c := range s.learned[half:] {
		if c.levels <= 2 {
			kept = append(kept, c)
		} else {
			c.dropped = true
		}
	}
	clear(s.learned[len(kept):])
	s.learned = kept
	s.room += moreRoom
	for literal := -s.n; literal <= s.n; literal++ {
		s.unwatch(literal)
	}
}

// badness is less for clauses that are likely to be of use.
func (c *clause) badness() int {
	return c.levels*(api.MaxAtoms+1) + len(c.literals)
}

// unwatch removes the watches of dropped clauses.
func (s *search) unwatch(literal int) {
	list := s.watches[literal]
	isDropped := func(w watch) bool { return w.clause.dropped }
	if kept := slices.DeleteFunc(list, isDropped); len(kept) > 0 {
		s.watches[literal] = kept
	} else {
		delete(s.watches, literal)
	}
}

// orderBy sorts a list by the keys of its elements. Equal ones stay in their order.
func orderBy[T any, K cmp.Ordered](list []T, key func(T) K) {
	slices.SortStableFunc(list, func(a, b T) int { return cmp.Compare(key(a), key(b)) })
}
