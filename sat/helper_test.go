package sat_test

import (
	"math/rand"
	"slices"
	"strconv"
	"strings"
	"testing"

	"acrospire/api"
	"acrospire/sat"
)

// The tests compare with a plain reading of the chapter, which tries all assignments
// and propagates units by looking at all clauses again and again.

// clauses reads a list of clauses that are separated by commas. "()" is the empty
// clause, and "" the empty list.
func clauses(t *testing.T, text string) [][]int {
	t.Helper()
	var list [][]int
	if text == "" {
		return list
	}
	for part := range strings.SplitSeq(text, ",") {
		c := []int{}
		for _, word := range strings.Fields(strings.TrimPrefix(part, "()")) {
			n, err := strconv.Atoi(word)
			if err != nil {
				t.Fatal(err)
			}
			c = append(c, n)
		}
		list = append(list, c)
	}
	return list
}

// A set holds the literals that are true: that of 1 at 1, that of -1 at -1 + size.
type set []bool

func newSet(n int) set {
	return make(set, 2*n+1)
}

func (s set) has(literal int) bool {
	return s[(literal+len(s))%len(s)]
}

func (s set) add(literal int) {
	s[(literal+len(s))%len(s)] = true
}

// outcome tells what a clause means for a set: whether none of its literals can be
// true, and otherwise the literal that must be, or 0.
func outcome(c []int, s set) (conflict bool, unit int) {
	for _, literal := range c {
		switch {
		case s.has(literal):
			return false, 0
		case s.has(-literal) || literal == unit:
		case unit != 0:
			return false, 0
		default:
			unit = literal
		}
	}
	return unit == 0, unit
}

// propagates tells whether unit propagation ends with a conflict. It changes the set.
func propagates(list [][]int, s set, literals ...int) bool {
	for _, literal := range literals {
		s.add(literal)
		if s.has(-literal) {
			return true
		}
	}
	for grown := true; grown; {
		grown = false
		for _, c := range list {
			conflict, unit := outcome(c, s)
			if conflict {
				return true
			}
			if unit != 0 {
				s.add(unit)
				grown = true
			}
		}
	}
	return false
}

func opposites(c []int) []int {
	var list []int
	for _, literal := range c {
		list = append(list, -literal)
	}
	return list
}

// follows tells whether a clause follows from others.
func follows(n int, list [][]int, c []int) bool {
	return propagates(list, newSet(n), opposites(c)...)
}

// isProof tells whether a proof is one.
func isProof(n int, formula, proof [][]int) bool {
	last := len(proof) - 1
	if last < 0 || last >= api.MaxSteps || len(proof[last]) > 0 {
		return false
	}
	list := slices.Clone(formula)
	for _, c := range proof {
		if len(c) > api.MaxAtoms || slices.ContainsFunc(c, func(l int) bool { return l == 0 || l < -n || l > n }) || !follows(n, list, c) {
			return false
		}
		list = append(list, c)
	}
	return true
}

// holds tells whether each clause has a literal that is true.
func holds(list [][]int, model []bool) bool {
	for _, c := range list {
		if !slices.ContainsFunc(c, func(l int) bool { return model[max(l, -l)-1] == (l > 0) }) {
			return false
		}
	}
	return true
}

// assignments returns all assignments of n variables.
func assignments(n int) [][]bool {
	var list [][]bool
	for bits := range 1 << n {
		values := make([]bool, n)
		for i := range values {
			values[i] = bits>>i&1 == 1
		}
		list = append(list, values)
	}
	return list
}

// models returns all models.
func models(n int, list [][]int) [][]bool {
	return slices.DeleteFunc(assignments(n), func(values []bool) bool { return !holds(list, values) })
}

// isRight tells whether a verdict is right for a valid formula.
func isRight(n int, list [][]int, v api.Verdict) bool {
	switch v.Status {
	case 1:
		return len(v.Model) == n && holds(list, v.Model) && len(v.Proof) == 0
	case 2:
		return len(v.Model) == 0 && isProof(n, list, v.Proof)
	}
	return v.Status == 3 && len(v.Model) == 0 && len(v.Proof) == 0
}

// solved returns the verdict of Solve, which must be right and pass Check.
func solved(t *testing.T, n int, list [][]int, budget int) api.Verdict {
	t.Helper()
	v, e := sat.Solve(n, list, budget)
	if e != api.OK || !isRight(n, list, v) {
		t.Fatalf("Solve(%d, %v, %d) = %v, %d, which is not right", n, list, budget, v, e)
	}
	if e := sat.Check(n, list, v); e != api.OK {
		t.Fatalf("Check(%d, %v, %v) = %d", n, list, v, e)
	}
	return v
}

// decided checks that Solve decides a formula of few variables as it must.
func decided(t *testing.T, n int, list [][]int) api.Verdict {
	t.Helper()
	v := solved(t, n, list, api.MaxBudget)
	want := api.Refuted
	if len(models(n, list)) > 0 {
		want = api.Satisfied
	}
	if v.Status != want {
		t.Fatalf("Solve(%d, %v) = %v; want status %d", n, list, v, want)
	}
	return v
}

// mustBe checks the status of the verdict on a formula.
func mustBe(t *testing.T, n int, text string, status int) api.Verdict {
	t.Helper()
	v := decided(t, n, clauses(t, text))
	if v.Status != status {
		t.Errorf("%s: %v, want status %d", text, v, status)
	}
	return v
}

// random returns clauses of from low to high literals.
func random(r *rand.Rand, n, count, low, high int) [][]int {
	var list [][]int
	for range count {
		c := []int{}
		for range low + r.Intn(high-low+1) {
			c = append(c, (1+r.Intn(n))*(1-2*r.Intn(2)))
		}
		list = append(list, c)
	}
	return list
}

// holes returns the formula that each of so many birds has a hole of its own.
func holes(birds, many int) (int, [][]int) {
	at := func(bird, hole int) int { return 1 + bird*many + hole }
	var list [][]int
	for b := range birds {
		some := []int{}
		for h := range many {
			some = append(some, at(b, h))
			for other := range b {
				list = append(list, []int{-at(b, h), -at(other, h)})
			}
		}
		list = append(list, some)
	}
	return birds * many, list
}

// excluding returns the clauses of n literals that exclude all assignments but those left.
func excluding(n int, left func(values []bool) bool) [][]int {
	var list [][]int
	for _, values := range assignments(n) {
		if left(values) {
			continue
		}
		c := []int{}
		for i, value := range values {
			if value {
				c = append(c, -i-1)
			} else {
				c = append(c, i+1)
			}
		}
		list = append(list, c)
	}
	return list
}

func cloned(list [][]int) [][]int {
	var result [][]int
	for _, c := range list {
		result = append(result, slices.Clone(c))
	}
	return result
}

func same(a, b [][]int) bool {
	return slices.EqualFunc(a, b, slices.Equal[[]int])
}

func isZero(v api.Verdict) bool {
	return v.Status == 0 && len(v.Model) == 0 && len(v.Proof) == 0
}
