package sat_test

import (
	"math"
	"math/rand"
	"slices"
	"sync"
	"testing"

	"acrospire/api"
	"acrospire/sat"
)

func TestSolveExamples(t *testing.T) {
	mustBe(t, 2, "1 2,-1 2,1 -2,-1 -2", api.Refuted)
	if v := mustBe(t, 2, "1 2,-1 2,1 -2", api.Satisfied); !slices.Equal(v.Model, []bool{true, true}) {
		t.Errorf("%v", v)
	}
	v, e := sat.Solve(0, [][]int{{}}, 0)
	if e != api.OK || v.Status != api.Refuted || len(v.Model) != 0 || !same(v.Proof, [][]int{{}}) {
		t.Errorf("the empty clause: %v, %d", v, e)
	}
}

func TestSolveWithoutVariablesOrClauses(t *testing.T) {
	for _, list := range [][][]int{nil, {}} {
		for _, budget := range []int{0, 1, api.MaxBudget} {
			if v := solved(t, 0, list, budget); v.Status != api.Satisfied {
				t.Errorf("no variables: %v", v)
			}
		}
		if v := decided(t, 7, list); v.Status != api.Satisfied {
			t.Errorf("no clauses: %v", v)
		}
	}
	for _, list := range [][][]int{{nil}, {{}}, {{}, nil, {}}} {
		if v := solved(t, 0, list, 0); v.Status != api.Refuted {
			t.Errorf("empty clauses: %v", v)
		}
	}
	mustBe(t, 3, "1 2,-3,,2", api.Refuted)
}

func TestSolveRepeatedLiterals(t *testing.T) {
	mustBe(t, 1, "1 1", api.Satisfied)
	mustBe(t, 1, "1 1 1,-1 -1", api.Refuted)
	mustBe(t, 1, "1 -1", api.Satisfied)
	mustBe(t, 2, "1 -1 2,-2 -2", api.Satisfied)
	mustBe(t, 2, "1 2 1,-1 2 2,1 1 -2,-2 -1 -2 -1", api.Refuted)
	mustBe(t, 2, "1 2,1 2,1 2,-1,-1", api.Satisfied)
	mustBe(t, 2, "-1 1,-2 2,2 -1,2 1,2 -2", api.Satisfied)
}

func TestSolveUnits(t *testing.T) {
	mustBe(t, 1, "1", api.Satisfied)
	mustBe(t, 1, "-1", api.Satisfied)
	mustBe(t, 1, "1,-1", api.Refuted)
	mustBe(t, 4, "1,-1 2,-2 3,-3 4", api.Satisfied)
	mustBe(t, 4, "1,-1 2,-2 3,-3 4,-4 -1", api.Refuted)
	mustBe(t, 4, "-4 -1,-3 4,-2 3,-1 2,1", api.Refuted)
	// What follows without decisions needs no budget.
	if v := solved(t, 4, clauses(t, "1,-1 2,-2 3,-3 4"), 0); v.Status != api.Satisfied {
		t.Errorf("units: %v", v)
	}
}

// All formulas over two variables whose clauses are sets of literals.
func TestSolveAllSmallFormulas(t *testing.T) {
	literals := []int{1, -1, 2, -2}
	var all [][]int
	for bits := range 16 {
		c := []int{}
		for i, literal := range literals {
			if bits>>i&1 == 1 {
				c = append(c, literal)
			}
		}
		all = append(all, c)
	}
	for bits := range 1 << 16 {
		var list [][]int
		for i, c := range all {
			if bits>>i&1 == 1 {
				list = append(list, c)
			}
		}
		decided(t, 2, list)
	}
}

func TestSolveRandomFormulas(t *testing.T) {
	r := rand.New(rand.NewSource(31))
	count := map[int]int{}
	for range 6000 {
		n := 1 + r.Intn(8)
		high := 1 + r.Intn(4)
		list := random(r, n, r.Intn(6*n), r.Intn(high+1), high)
		count[decided(t, n, list).Status]++
	}
	for i := range 300 {
		n := 9 + i%4
		count[decided(t, n, random(r, n, 3*n+r.Intn(3*n), 2, 4)).Status]++
	}
	if count[api.Satisfied] < 1000 || count[api.Refuted] < 1000 {
		t.Errorf("statuses %v", count)
	}
}

// Each assignment has a clause of its own, so that nearly all of them are searched.
func TestSolveTwelveVariables(t *testing.T) {
	none := excluding(12, func([]bool) bool { return false })
	v, e := sat.Solve(12, none, api.MaxBudget)
	if e != api.OK || v.Status != api.Refuted || len(v.Proof) > api.MaxSteps || sat.Check(12, none, v) != api.OK {
		t.Errorf("no model: %d, %d, %d steps", v.Status, e, len(v.Proof))
	}
	r := rand.New(rand.NewSource(32))
	for range 10 {
		only := make([]bool, 12)
		for i := range only {
			only[i] = r.Intn(2) == 1
		}
		list := excluding(12, func(values []bool) bool { return slices.Equal(values, only) })
		r.Shuffle(len(list), func(i, j int) { list[i], list[j] = list[j], list[i] })
		if v, e := sat.Solve(12, list, api.MaxBudget); e != api.OK || v.Status != api.Satisfied || !slices.Equal(v.Model, only) {
			t.Errorf("the only model is %v: %v, %d", only, v, e)
		}
	}
	// An even number of true variables in each of two halves, and an odd one in all.
	odd := excluding(12, func(values []bool) bool { return isOdd(values) })
	even := slices.Concat(excluding(6, func(values []bool) bool { return !isOdd(values) }), shifted(excluding(6, func(values []bool) bool { return !isOdd(values) }), 6))
	list := slices.Concat(odd, even)
	if v, e := sat.Solve(12, list, api.MaxBudget); e != api.OK || v.Status != api.Refuted || sat.Check(12, list, v) != api.OK {
		t.Errorf("parity: %d, %d", v.Status, e)
	}
}

func isOdd(values []bool) bool {
	odd := false
	for _, value := range values {
		odd = odd != value
	}
	return odd
}

// shifted replaces each variable v by v + by.
func shifted(list [][]int, by int) [][]int {
	list = cloned(list)
	for _, c := range list {
		for i, literal := range c {
			if literal > 0 {
				c[i] += by
			} else {
				c[i] -= by
			}
		}
	}
	return list
}

func TestSolveMostClausesOfTwelveVariables(t *testing.T) {
	r := rand.New(rand.NewSource(33))
	for _, width := range []int{3, 8, 10, 11, 12, 20, api.MaxWidth} {
		list := random(r, 12, api.MaxClauses, width, width)
		v, e := sat.Solve(12, list, api.MaxBudget)
		if e != api.OK || v.Status == api.Unknown || sat.Check(12, list, v) != api.OK {
			t.Errorf("width %d: %d, %d", width, v.Status, e)
		}
	}
}

func TestSolveHoles(t *testing.T) {
	for birds := 1; birds <= 7; birds++ {
		n, list := holes(birds, birds-1)
		if v := solved(t, n, list, api.MaxBudget); v.Status != api.Refuted {
			t.Errorf("%d birds, %d holes: %d", birds, birds-1, v.Status)
		}
		n, list = holes(birds, birds)
		if v := solved(t, n, list, api.MaxBudget); v.Status != api.Satisfied {
			t.Errorf("%d birds, as many holes: %d", birds, v.Status)
		}
	}
}

// Searches that restart, and that forget learned clauses. The plain reading of the
// chapter would check their proofs too slowly.
func TestSolveLongSearches(t *testing.T) {
	n, list := holes(8, 7)
	v, e := sat.Solve(n, list, api.MaxBudget)
	if e != api.OK || v.Status != api.Refuted || len(v.Proof) < 2500 || sat.Check(n, list, v) != api.OK {
		t.Errorf("eight birds in seven holes: %d, %d, %d steps", v.Status, e, len(v.Proof))
	}
	r := rand.New(rand.NewSource(34))
	count := map[int]int{}
	for range 20 {
		list := random(r, 180, 767, 3, 3)
		v, e := sat.Solve(180, list, api.MaxBudget)
		if e != api.OK || sat.Check(180, list, v) != api.OK {
			t.Errorf("%d, %d", v.Status, e)
		}
		count[v.Status]++
	}
	if count[api.Satisfied] < 3 || count[api.Refuted] < 3 {
		t.Errorf("statuses %v", count)
	}
}

// A proof may not have more than MaxSteps clauses, however long the search.
func TestSolveHardFormula(t *testing.T) {
	n, list := holes(10, 9)
	v, e := sat.Solve(n, list, api.MaxBudget)
	if e != api.OK || v.Status == api.Satisfied || len(v.Proof) > api.MaxSteps || sat.Check(n, list, v) != api.OK {
		t.Errorf("%d, %d, %d steps", v.Status, e, len(v.Proof))
	}
}

func TestSolveSmallBudgets(t *testing.T) {
	n, list := holes(6, 5)
	unknown := 0
	for budget := range 400 {
		if v := solved(t, n, list, budget); v.Status == api.Unknown {
			unknown++
		}
	}
	if unknown == 0 || unknown == 400 {
		t.Errorf("%d of 400 budgets do not suffice", unknown)
	}
	r := rand.New(rand.NewSource(35))
	for range 2000 {
		n := 1 + r.Intn(20)
		solved(t, n, random(r, n, r.Intn(5*n), 1, 3), r.Intn(12))
	}
}

func TestSolveLargestFormulas(t *testing.T) {
	r := rand.New(rand.NewSource(36))
	for _, width := range []int{8, api.MaxWidth} {
		list := random(r, api.MaxAtoms, api.MaxClauses, width, width)
		v, e := sat.Solve(api.MaxAtoms, list, api.MaxBudget)
		if e != api.OK || v.Status != api.Satisfied || !isRight(api.MaxAtoms, list, v) {
			t.Errorf("width %d: %d, %d", width, v.Status, e)
		}
	}
	chain := [][]int{{1}, {-api.MaxAtoms}}
	for v := 1; v < api.MaxAtoms; v++ {
		chain = append(chain, []int{-v, v + 1})
	}
	if v := solved(t, api.MaxAtoms, chain, 0); v.Status != api.Refuted {
		t.Errorf("chain: %d", v.Status)
	}
	if v := solved(t, api.MaxAtoms, chain[1:], api.MaxBudget); v.Status != api.Satisfied {
		t.Errorf("chain: %d", v.Status)
	}
}

// A wrong formula is refused by Solve and by Check.
type wrong struct {
	what string
	n    int
	list [][]int
}

func wrongFormulas() []wrong {
	list := []wrong{
		{"too many clauses", 2, slices.Repeat([][]int{{1, 2}}, api.MaxClauses+1)},
		{"too many empty clauses", 2, make([][]int, api.MaxClauses+1)},
		{"a clause is too long", 2, [][]int{{1}, slices.Repeat([]int{2}, api.MaxWidth+1)}},
		{"a clause is far too long", 2, [][]int{make([]int, 1<<20)}},
		{"a literal without variables", 0, [][]int{{1}}},
		{"an empty clause and a wrong literal", 2, [][]int{{}, {3}}},
		{"a contradiction and a wrong literal", 2, [][]int{{1}, {-1}, {-3}}},
	}
	for _, n := range []int{-1, api.MaxAtoms + 1, math.MaxInt, math.MinInt} {
		list = append(list, wrong{"number of variables", n, nil}, wrong{"number of variables", n, [][]int{{1}}}, wrong{"number of variables", n, [][]int{{}}})
	}
	for _, literal := range []int{0, 4, -4, math.MaxInt, math.MinInt, math.MinInt + 1, 1 << 32, 1<<32 + 1} {
		list = append(list, wrong{"literal", 3, [][]int{{1, 2}, {3, literal}}}, wrong{"literal", 3, [][]int{{literal}, {1}}})
	}
	return list
}

func TestSolveWrongFormulas(t *testing.T) {
	for _, w := range wrongFormulas() {
		for _, budget := range []int{0, api.MaxBudget, -1} {
			if v, e := sat.Solve(w.n, w.list, budget); e != api.ErrArg || !isZero(v) {
				t.Errorf("%s, %d, %d: Solve = %v, %d", w.what, w.n, budget, v, e)
			}
		}
	}
}

func TestSolveWrongBudgets(t *testing.T) {
	for _, budget := range []int{-1, api.MaxBudget + 1, math.MaxInt, math.MinInt} {
		for _, list := range [][][]int{nil, {{1}}, {{}}} {
			if v, e := sat.Solve(1, list, budget); e != api.ErrArg || !isZero(v) {
				t.Errorf("budget %d: %v, %d", budget, v, e)
			}
		}
	}
}

func TestSolveLimits(t *testing.T) {
	most := slices.Repeat([][]int{{1, 2}}, api.MaxClauses)
	if v, e := sat.Solve(2, most, api.MaxBudget); e != api.OK || v.Status != api.Satisfied {
		t.Errorf("most clauses: %d, %d", v.Status, e)
	}
	long := [][]int{slices.Repeat([]int{2, 1, 2, -3}, api.MaxWidth/4), {-2}, {-1}}
	if v := decided(t, 3, long); v.Model[2] {
		t.Errorf("longest clause: %v", v)
	}
	last := [][]int{{-api.MaxAtoms}, {api.MaxAtoms, api.MaxAtoms - 1}}
	if v := solved(t, api.MaxAtoms, last, api.MaxBudget); v.Status != api.Satisfied {
		t.Errorf("most variables: %d", v.Status)
	}
}

func TestSolveLeavesItsArguments(t *testing.T) {
	n, list := holes(6, 5)
	before := cloned(list)
	first := solved(t, n, list, api.MaxBudget)
	if !same(list, before) {
		t.Errorf("the clauses were changed")
	}
	second := solved(t, n, list, api.MaxBudget)
	if !same(first.Proof, second.Proof) {
		t.Errorf("two calls differ")
	}
	// Clauses that share memory would change each other.
	for i, c := range first.Proof {
		for k := range c {
			c[k] = 1000 + i
		}
		first.Proof[i] = append(c, 1000+i)
	}
	for i, c := range first.Proof {
		if slices.ContainsFunc(c, func(literal int) bool { return literal != 1000+i }) {
			t.Fatalf("step %d shares memory", i)
		}
	}
	if !same(list, before) || !isRight(n, list, second) {
		t.Errorf("results share memory with arguments or other results")
	}
}

func TestSolveAtTheSameTime(t *testing.T) {
	n, list := holes(6, 5)
	want, _ := sat.Solve(n, list, api.MaxBudget)
	results := make([]api.Verdict, 8)
	var group sync.WaitGroup
	for i := range results {
		group.Go(func() { results[i], _ = sat.Solve(n, list, api.MaxBudget) })
	}
	group.Wait()
	for _, v := range results {
		if !same(v.Proof, want.Proof) {
			t.Errorf("calls at the same time differ")
		}
	}
}
