package sat

// A clause is a list of different literals, at least two and no opposites among them.
// It watches the first two: as long as neither is false, it needs no look.
type clause struct {
	literals []int
	levels   int // how many levels its literals were on when it was learned
	dropped  bool
}

// A watch says that a clause watches a literal. If the hint, another one of its
// literals, is true, the clause needs no look either.
type watch struct {
	clause *clause
	hint   int
}

// An assignment holds the literals that are true, and clauses that it propagates. Its
// levels nest: each one but level 0 can be taken back together with those above it.
type assignment struct {
	n       int
	truth   []int8    // by n + literal: 1 true, -1 false, 0 neither
	trail   []int     // the literals that are true, in the order in which they became true
	done    int       // how many literals of the trail have been propagated
	starts  []int     // where each level but 0 begins in the trail
	level   []int     // by variable that is assigned
	reason  []*clause // by variable that is assigned: the clause that it follows from, if any
	watches map[int][]watch
	stamps  []int // by n + literal: the last call of simplify that kept the literal
	calls   int   // how often simplify was called
}

func newAssignment(n int) *assignment {
	return &assignment{
		n:       n,
		truth:   make([]int8, 2*n+1),
		level:   make([]int, n+1),
		reason:  make([]*clause, n+1),
		watches: map[int][]watch{},
		stamps:  make([]int, 2*n+1),
	}
}

func variable(literal int) int {
	return max(literal, -literal)
}

func (a *assignment) isTrue(literal int) bool {
	return a.truth[a.n+literal] > 0
}

func (a *assignment) isFalse(literal int) bool {
	return a.truth[a.n+literal] < 0
}

func (a *assignment) depth() int {
	return len(a.starts)
}

// open begins a level.
func (a *assignment) open() {
	a.starts = append(a.starts, len(a.trail))
}

// above returns the literals of the levels above a level.
func (a *assignment) above(level int) []int {
	if level == a.depth() {
		return nil
	}
	return a.trail[a.starts[level]:]
}

// retreat takes back the levels above a level. What is left has been propagated.
func (a *assignment) retreat(level int) {
	gone := a.above(level)
	for _, literal := range gone {
		a.truth[a.n+literal], a.truth[a.n-literal] = 0, 0
	}
	a.trail = a.trail[:len(a.trail)-len(gone)]
	a.starts = a.starts[:level]
	a.done = len(a.trail)
}

// assign makes a literal true that is neither true nor false.
func (a *assignment) assign(literal int, reason *clause) {
	a.truth[a.n+literal], a.truth[a.n-literal] = 1, -1
	v := variable(literal)
	a.level[v], a.reason[v] = a.depth(), reason
	a.trail = append(a.trail, literal)
}

// addAll adds clauses as add does.
func (a *assignment) addAll(clauses [][]int) bool {
	for _, c := range clauses {
		if !a.add(c) {
			return false
		}
	}
	return true
}

// add adds a clause on level 0 and propagates. It returns false if there is a conflict.
func (a *assignment) add(literals []int) bool {
	rest, holds := a.simplify(literals)
	switch {
	case holds:
		return true
	case len(rest) == 0:
		return false
	case len(rest) == 1:
		a.assign(rest[0], nil)
		return a.propagate() == nil
	}
	a.attach(&clause{literals: rest})
	return true
}

// simplify returns the literals of a clause that are not false on level 0, each once,
// or tells that the clause holds anyway.
func (a *assignment) simplify(literals []int) (rest []int, holds bool) {
	a.calls++
	rest = make([]int, 0, len(literals))
	for _, literal := range literals {
		if a.isTrue(literal) || a.stamps[a.n-literal] == a.calls {
			return nil, true
		}
		if !a.isFalse(literal) && a.stamps[a.n+literal] != a.calls {
			a.stamps[a.n+literal] = a.calls
			rest = append(rest, literal)
		}
	}
	return rest, false
}

func (a *assignment) attach(c *clause) {
	first, second := c.literals[0], c.literals[1]
	a.watches[first] = append(a.watches[first], watch{c, second})
	a.watches[second] = append(a.watches[second], watch{c, first})
}

// propagate assigns what follows, until a clause has only false literals, which it
// returns then, or nothing else follows.
func (a *assignment) propagate() *clause {
	for a.done < len(a.trail) {
		literal := -a.trail[a.done]
		a.done++
		if conflict := a.visit(literal); conflict != nil {
			return conflict
		}
	}
	return nil
}

// visit looks at the clauses that watch a literal that became false.
func (a *assignment) visit(literal int) *clause {
	list := a.watches[literal]
	kept := list[:0]
	var conflict *clause
	for i, w := range list {
		if a.isTrue(w.hint) {
			kept = append(kept, w)
			continue
		}
		w.hint = w.clause.partner(literal)
		if !a.isTrue(w.hint) && a.watchAnother(w) {
			continue
		}
		kept = append(kept, w)
		if a.isFalse(w.hint) {
			conflict = w.clause
			kept = append(kept, list[i+1:]...)
			break
		}
		if !a.isTrue(w.hint) {
			a.assign(w.hint, w.clause)
		}
	}
	a.store(literal, list, kept)
	return conflict
}

// partner puts a watched literal second, and returns the other watched one.
func (c *clause) partner(literal int) int {
	if c.literals[0] == literal {
		c.literals[0], c.literals[1] = c.literals[1], literal
	}
	return c.literals[0]
}

// watchAnother makes a clause watch another literal instead of the second one, if one
// is not false.
func (a *assignment) watchAnother(w watch) bool {
	literals := w.clause.literals
	for i := 2; i < len(literals); i++ {
		if literal := literals[i]; !a.isFalse(literal) {
			literals[1], literals[i] = literal, literals[1]
			a.watches[literal] = append(a.watches[literal], w)
			return true
		}
	}
	return false
}

// store puts back those watches of a list that are kept.
func (a *assignment) store(literal int, list, kept []watch) {
	switch {
	case len(kept) == 0:
		delete(a.watches, literal)
	case len(kept) < len(list):
		clear(list[len(kept):])
		a.watches[literal] = kept
	}
}
