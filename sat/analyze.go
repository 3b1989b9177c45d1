package sat

// analyze returns the clause that follows from a conflict: it has one literal on the
// current level, which comes first, and none on level 0.
func (s *search) analyze(conflict *clause) []int {
	literals := []int{0}
	var met []int
	unresolved, at := 0, len(s.trail)
	reason := conflict
analysis:
	for {
		for _, literal := range reason.literals {
			v := variable(literal)
			if s.marked[v] || s.level[v] == 0 {
				continue
			}
			s.marked[v] = true
			met = append(met, v)
			if s.level[v] == s.depth() {
				unresolved++
			} else {
				literals = append(literals, literal)
			}
		}
		for {
			at--
			literal := s.trail[at]
			if !s.marked[variable(literal)] {
				continue
			}
			unresolved--
			if unresolved == 0 {
				literals[0] = -literal
				break analysis
			}
			reason = s.reason[variable(literal)]
			break
		}
	}
	literals = s.shorten(literals)
	for _, v := range met {
		s.marked[v] = false
		s.bump(v)
	}
	return literals
}

// shorten leaves out literals that follow from others of the learned clause.
func (s *search) shorten(literals []int) []int {
	kept := literals[:1]
	for _, literal := range literals[1:] {
		if !s.isImplied(literal) {
			kept = append(kept, literal)
		}
	}
	return kept
}

// isImplied tells whether the reason for the opposite of a literal has only literals
// that were met.
func (s *search) isImplied(literal int) bool {
	reason := s.reason[variable(literal)]
	if reason == nil {
		return false
	}
	for _, other := range reason.literals {
		if v := variable(other); !s.marked[v] && s.level[v] > 0 {
			return false
		}
	}
	return true
}

func (s *search) putHighestSecond(literals []int) {
	for i := 2; i < len(literals); i++ {
		if s.level[variable(literals[i])] > s.level[variable(literals[1])] {
			literals[1], literals[i] = literals[i], literals[1]
		}
	}
}

// countLevels returns on how many levels literals are.
func (s *search) countLevels(literals []int) int {
	seen := map[int]bool{}
	for _, literal := range literals {
		seen[s.level[variable(literal)]] = true
	}
	return len(seen)
}
