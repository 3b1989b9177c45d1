package sat

import "acrospire/api"

// A search looks for a model by decisions. From each conflict it learns a clause that
// follows from those before, so that the learned clauses, in their order, are a proof.
//
// Between two restarts the sizes of the levels, from level 0 on, grow in lexicographic
// order with each step. So there are at most 2^(n+1) steps between them, and as the
// time to the next restart grows, the search ends. With 12 variables, it has made less
// than MaxBudget steps and learned less than MaxSteps clauses then.
type search struct {
	*assignment
	queue
	phase   []bool // by variable: its last value
	marked  []bool // by variable: whether analyze has met it
	learned []*clause
	room    int // how many learned clauses are kept
	proof   [][]int
}

func newSearch(n int) *search {
	return &search{
		assignment: newAssignment(n),
		queue:      newQueue(n),
		phase:      make([]bool, n+1),
		marked:     make([]bool, n+1),
		room:       firstRoom,
	}
}

const (
	firstRoom    = 2000
	firstRestart = 100
)

// run returns the verdict for a formula.
func (s *search) run(clauses [][]int, budget int) api.Verdict {
	if !s.addAll(clauses) {
		return s.refuted()
	}
	restart, left := firstRestart, firstRestart
	for ; ; budget-- {
		conflict := s.propagate()
		switch {
		case conflict == nil && len(s.trail) == s.n:
			return api.Verdict{Status: api.Satisfied, Model: s.model()}
		case conflict != nil && s.depth() == 0:
			return s.refuted()
		case budget == 0 || len(s.proof) == api.MaxSteps-1:
			return api.Verdict{Status: api.Unknown}
		case conflict != nil:
			s.learn(conflict)
			left--
		case left <= 0:
			restart += restart / 2
			left = restart
			s.takeBack(0)
		default:
			s.decide()
		}
	}
}

func (s *search) refuted() api.Verdict {
	return api.Verdict{Status: api.Refuted, Proof: append(s.proof, []int{})}
}

func (s *search) model() []bool {
	values := make([]bool, s.n)
	for i := range values {
		values[i] = s.isTrue(i + 1)
	}
	return values
}

// decide assigns the variable that took part in most of the recent conflicts.
func (s *search) decide() {
	v := s.pop()
	for s.isTrue(v) || s.isFalse(v) {
		v = s.pop()
	}
	s.open()
	if s.phase[v] {
		s.assign(v, nil)
	} else {
		s.assign(-v, nil)
	}
}

// takeBack retreats to a level, and remembers the values that are taken back.
func (s *search) takeBack(level int) {
	for _, literal := range s.above(level) {
		v := variable(literal)
		s.phase[v] = literal > 0
		s.push(v)
	}
	s.retreat(level)
}

// learn adds the clause that follows from a conflict, and takes back decisions until
// exactly one of its literals can be true.
func (s *search) learn(conflict *clause) {
	literals := s.analyze(conflict)
	s.proof = append(s.proof, literals)
	s.age()
	if len(literals) == 1 {
		s.takeBack(0)
		s.assign(literals[0], nil)
		return
	}
	c := &clause{literals: literals, levels: s.countLevels(literals)}
	s.putHighestSecond(literals)
	s.takeBack(s.level[variable(literals[1])])
	s.attach(c)
	s.assign(literals[0], c)
	s.learned = append(s.learned, c)
	if len(s.learned) > s.room {
		s.forget()
	}
}
