package sat_test

import (
	"math"
	"math/rand"
	"slices"
	"testing"

	"acrospire/api"
	"acrospire/sat"
)

// mustCheck checks what Check returns for a verdict.
func mustCheck(t *testing.T, n int, list [][]int, v api.Verdict, want api.Errno) {
	t.Helper()
	if e := sat.Check(n, list, v); e != want {
		t.Errorf("Check(%d, %.200v, %.200v) = %d, want %d", n, list, v, e, want)
	}
}

func proof(steps [][]int) api.Verdict {
	return api.Verdict{Status: api.Refuted, Proof: steps}
}

func model(values ...bool) api.Verdict {
	return api.Verdict{Status: api.Satisfied, Model: values}
}

func TestCheckModels(t *testing.T) {
	list := clauses(t, "1 2,-1 2,-3 1 1")
	mustCheck(t, 3, list, model(true, true, true), api.OK)
	mustCheck(t, 3, list, model(false, true, false), api.OK)
	mustCheck(t, 3, list, model(false, true, true), api.ErrAnswer)
	mustCheck(t, 3, list, model(true, false, true), api.ErrAnswer)
	mustCheck(t, 3, list, model(false, false, false), api.ErrAnswer)
	mustCheck(t, 3, list, model(true, true), api.ErrAnswer)
	mustCheck(t, 3, list, model(), api.ErrAnswer)
	mustCheck(t, 3, list, model(true, true, true, true), api.ErrAnswer)
	mustCheck(t, 2, clauses(t, ""), model(false, true), api.OK)
	mustCheck(t, 2, clauses(t, ""), model(false), api.ErrAnswer)
	mustCheck(t, 1, clauses(t, "1 -1"), model(false), api.OK)
	mustCheck(t, 1, clauses(t, "()"), model(false), api.ErrAnswer)
	mustCheck(t, 0, nil, model(), api.OK)
	mustCheck(t, 0, nil, model(true), api.ErrAnswer)
	mustCheck(t, 0, [][]int{{}}, model(), api.ErrAnswer)
	with := model(true, true, true)
	with.Proof = [][]int{}
	mustCheck(t, 3, list, with, api.OK)
	with.Proof = [][]int{{}}
	mustCheck(t, 3, list, with, api.ErrAnswer)
	with.Proof = [][]int{{2}}
	mustCheck(t, 3, list, with, api.ErrAnswer)
}

func TestCheckUnknown(t *testing.T) {
	for _, text := range []string{"", "1", "1,-1", "1 2,-1 2,1 -2,-1 -2"} {
		list := clauses(t, text)
		mustCheck(t, 2, list, api.Verdict{Status: api.Unknown}, api.OK)
		mustCheck(t, 2, list, api.Verdict{Status: api.Unknown, Model: []bool{}, Proof: [][]int{}}, api.OK)
		mustCheck(t, 2, list, api.Verdict{Status: api.Unknown, Model: []bool{true, true}}, api.ErrAnswer)
		mustCheck(t, 2, list, api.Verdict{Status: api.Unknown, Proof: [][]int{{2}, {}}}, api.ErrAnswer)
		mustCheck(t, 2, list, api.Verdict{Status: api.Unknown, Proof: [][]int{{}}}, api.ErrAnswer)
	}
	mustCheck(t, 0, nil, api.Verdict{Status: api.Unknown}, api.OK)
}

func TestCheckStatuses(t *testing.T) {
	for _, status := range []int{0, 4, -1, 257, 258, 259, math.MaxInt, math.MinInt} {
		mustCheck(t, 1, clauses(t, "1"), api.Verdict{Status: status}, api.ErrAnswer)
		mustCheck(t, 1, clauses(t, "1"), api.Verdict{Status: status, Model: []bool{true}}, api.ErrAnswer)
		mustCheck(t, 1, clauses(t, "1,-1"), api.Verdict{Status: status, Proof: [][]int{{}}}, api.ErrAnswer)
	}
	mustCheck(t, 1, clauses(t, "1"), api.Verdict{Status: api.Refuted, Model: []bool{true}}, api.ErrProof)
	mustCheck(t, 1, clauses(t, "1,-1"), api.Verdict{Status: api.Satisfied, Proof: [][]int{{}}}, api.ErrAnswer)
	mustCheck(t, 1, clauses(t, "1,-1"), api.Verdict{Status: api.Unknown, Proof: [][]int{{}}}, api.ErrAnswer)
	mustCheck(t, 1, clauses(t, "1,-1"), api.Verdict{Status: api.Refuted, Proof: [][]int{{}}}, api.OK)
	mustCheck(t, 1, clauses(t, "1,-1"), api.Verdict{Status: api.Refuted, Model: []bool{}, Proof: [][]int{{}}}, api.OK)
	mustCheck(t, 1, clauses(t, "1,-1"), api.Verdict{Status: api.Refuted, Model: []bool{true}, Proof: [][]int{{}}}, api.ErrProof)
}

// A proof of a formula, both as text, and whether it is one.
type attempt struct {
	why, formula, steps string
	right               bool
}

// mustProve checks what Check returns for proofs, and that the plain reading of the
// chapter agrees.
func mustProve(t *testing.T, n int, list []attempt) {
	t.Helper()
	for _, a := range list {
		formula, steps := clauses(t, a.formula), clauses(t, a.steps)
		if isProof(n, formula, steps) != a.right {
			t.Errorf("%v: the test is wrong", a)
		}
		want := api.OK
		if !a.right {
			want = api.ErrProof
		}
		if e := sat.Check(n, formula, proof(steps)); e != want {
			t.Errorf("%v: Check = %d", a, e)
		}
	}
}

func TestCheckProofs(t *testing.T) {
	square, cube := "1 2,-1 2,1 -2,-1 -2", "1 2 3,1 2 -3,1 -2 3,1 -2 -3,-1 2 3,-1 2 -3,-1 -2 3,-1 -2 -3"
	mustProve(t, 3, []attempt{
		{"the example", square, "2,()", true},
		{"another one", square, "-1,()", true},
		{"repeated steps", square, "2,2,(),()", true},
		{"steps after the empty clause", square, "2,(),3,1,()", true},
		{"no step", square, "", false},
		{"only the empty clause", square, "()", false},
		{"the empty clause does not come last", square, "2,(),2", false},
		{"no empty clause", square, "2", false},
		{"the empty clause comes first", square, "(),2,()", false},
		{"a step does not follow", square, "3,2,()", false},
		{"a later step does not follow", cube, "1 2,3,1,-1 2,()", false},
		{"a step that needs a later one", cube, "1,1 2,()", false},
		{"the steps in order", cube, "1 2,1,-1 2,()", true},
		{"too few steps", cube, "1 2,1,()", false},
		{"a step holds in all models, but units do not show it", "1 2 3,1 2 -3,1 -2 3,1 -2 -3", "1,()", false},
		{"the formula has a model", "1 2,-1 2,1 -2", "2,()", false},
		{"the formula has a model", "1 2,-1 2,1 -2", "2,1,()", false},
		{"the formula is empty", "", "()", false},
		{"the formula has the empty clause", "1 2,()", "()", true},
		{"anything follows from the empty clause", "1 2,()", "3,-3,1 2 -3,()", true},
		{"anything follows from a contradiction", "3,-3", "1,2 -1,()", true},
		{"but the last step must be empty", "3,-3", "1,2 -1", false},
		{"but there must be a step", "3,-3", "", false},
		{"units suffice", "1,-1 2,-2 3,-3 -1", "()", true},
		{"units in reverse", "-3 -1,-2 3,-1 2,1", "()", true},
	})
}

func TestCheckRepeatedLiterals(t *testing.T) {
	mustProve(t, 3, []attempt{
		{"a literal counts once in a clause", "1 1,-1 -1 -1", "()", true},
		{"also if it becomes the last one later", "1 1 2,-2 -2,-1 -1", "()", true},
		{"also if its neighbors are false", "2 1 2 1 2,-2,-1 3 3,-3 -1", "()", true},
		{"also in a step", "1 2,-1 2,1 -2,-1 -2", "2 2 2,()", true},
		{"also of two literals", "1 1 2 2 1,2 2 -1,1 -2 1 -2,-1 -2", "2 2,()", true},
		{"a clause with a literal and its negation says nothing", "1 -1,2 -2", "()", false},
		{"nor if the others are false", "1 -1 2,-2", "1,()", false},
		{"nor if the others are false", "1 -1 2,-2", "-1,()", false},
		{"such a step follows", "1 2,-1 2,1 -2,-1 -2", "3 -3,1 3 -1,2,()", true},
		{"but is of no use", "1 2,-1 2,1 -2,-1 -2", "2 -2,()", false},
		{"the opposites of a step propagate", "-1 2,-2 3", "-1 3,()", false},
		{"with the formula's units", "-1 2,-2 3,1,-3", "-1 3,()", true},
	})
}

// A step of which one literal is true already follows, whatever the others are.
func TestCheckStepsThatHold(t *testing.T) {
	mustProve(t, 5, []attempt{
		{"a unit of the formula", "1,2 3,-2 3,2 -3,-2 -3", "1,3,()", true},
		{"a unit and other literals", "1,2 3,-2 3,2 -3,-2 -3", "4 1 5,3,()", true},
		{"what follows from it", "1,-1 4,2 3,-2 3,2 -3,-2 -3", "-5 4,3,()", true},
		{"its opposite does not follow", "1,2 3,-2 3,2 -3,-2 -3", "-1,3,()", false},
		{"nor an open literal", "1,2 3,-2 3,2 -3,-2 -3", "-1 4,3,()", false},
		{"units of the proof stay", "1 2,-1 2,-2 3,-2 -3", "2,3 4,()", true},
		{"what a step assumes does not stay", "1 2,-1 2,-3 4,-4 5", "-3 5,3,2,()", false},
	})
}

func TestCheckWrongLiterals(t *testing.T) {
	list := clauses(t, "1 2,-1 2,1 -2,-1 -2")
	for _, literal := range []int{0, 3, -3, math.MaxInt, math.MinInt, math.MinInt + 1, 1 << 32} {
		mustCheck(t, 2, list, proof([][]int{{2, literal}, {}}), api.ErrProof)
		mustCheck(t, 2, list, proof([][]int{{literal}, {2}, {}}), api.ErrProof)
		mustCheck(t, 2, list, proof([][]int{{2}, {literal}, {}}), api.ErrProof)
		mustCheck(t, 2, list, proof([][]int{{2}, {}, {1, literal}, {}}), api.ErrProof)
		mustCheck(t, 2, append(cloned(list), []int{}), proof([][]int{{literal}, {}}), api.ErrProof)
	}
	mustCheck(t, 0, [][]int{{}}, proof([][]int{{1}, {}}), api.ErrProof)
	mustCheck(t, 0, [][]int{{}}, proof([][]int{nil}), api.OK)
}

func TestCheckLimits(t *testing.T) {
	list := clauses(t, "1 2,-1 2,1 -2,-1 -2")
	steps := append(slices.Repeat([][]int{{2, 3}}, api.MaxSteps-2), []int{2}, []int{})
	mustCheck(t, 3, list, proof(steps), api.OK)
	steps = append([][]int{{2, 3}}, steps...)
	mustCheck(t, 3, list, proof(steps), api.ErrProof)
	mustCheck(t, 3, append(cloned(list), []int{}), proof(steps), api.ErrProof)
	mustCheck(t, 3, append(cloned(list), []int{}), proof(make([][]int, api.MaxSteps)), api.OK)
	mustCheck(t, 3, append(cloned(list), []int{}), proof(make([][]int, api.MaxSteps+1)), api.ErrProof)

	mustCheck(t, 3, list, proof([][]int{slices.Repeat([]int{2}, api.MaxAtoms), {}}), api.OK)
	mustCheck(t, 3, list, proof([][]int{slices.Repeat([]int{2}, api.MaxAtoms+1), {}}), api.ErrProof)
	mustCheck(t, 3, list, proof([][]int{{2}, {}, slices.Repeat([]int{2}, api.MaxAtoms+1), {}}), api.ErrProof)

	n, long := api.MaxAtoms, [][]int{{-1}}
	var all []int
	for v := 1; v <= n; v++ {
		all = append(all, v)
		if v > 1 {
			long = append(long, []int{1 - v, -v})
		}
	}
	mustCheck(t, n, append(long, []int{1, 2}, []int{1, -2}), proof([][]int{all, {}}), api.OK)
	mustCheck(t, n, append(cloned(list), []int{n}), proof([][]int{all, {2}, {}}), api.OK)
	mustCheck(t, n, append(cloned(list), []int{-n}), proof([][]int{all[2:], {2}, {}}), api.ErrProof)
}

func TestCheckWrongFormulas(t *testing.T) {
	for _, w := range wrongFormulas() {
		for status := range 5 {
			mustCheck(t, w.n, w.list, api.Verdict{Status: status}, api.ErrArg)
			mustCheck(t, w.n, w.list, api.Verdict{Status: status, Model: []bool{true, true}}, api.ErrArg)
			mustCheck(t, w.n, w.list, api.Verdict{Status: status, Proof: [][]int{{}}}, api.ErrArg)
		}
	}
	most := append(slices.Repeat([][]int{slices.Repeat([]int{1}, api.MaxWidth)}, api.MaxClauses-1), []int{-1})
	mustCheck(t, 1, most, proof([][]int{{}}), api.OK)
	mustCheck(t, 1, most[:api.MaxClauses-1], model(true), api.OK)
}

// altered returns a proof with one change.
func altered(r *rand.Rand, n int, steps [][]int) [][]int {
	steps = cloned(steps)
	at := r.Intn(len(steps))
	switch c := steps[at]; r.Intn(6) {
	case 0:
		return slices.Delete(steps, at, at+1)
	case 1:
		other := r.Intn(len(steps))
		steps[at], steps[other] = steps[other], steps[at]
	case 2:
		if len(c) > 0 {
			steps[at] = c[1:]
		}
	case 3:
		steps[at] = append(c, random(r, n, 1, 1, 1)[0]...)
	case 4:
		if len(c) > 0 {
			c[0] = -c[0]
		}
	case 5:
		return slices.Insert(steps, at, random(r, n, 1, 1, 3)[0])
	}
	return steps
}

// Proofs of Solve with changes, and without, checked by the plain reading, too.
func TestCheckAlteredProofs(t *testing.T) {
	r := rand.New(rand.NewSource(37))
	count := map[api.Errno]int{}
	for range 4000 {
		n := 3 + r.Intn(6)
		list := random(r, n, 5*n, 1, 3)
		if r.Intn(2) == 0 {
			list = random(r, n, 7*n, 3, 3)
		}
		v, _ := sat.Solve(n, list, api.MaxBudget)
		if v.Status != api.Refuted {
			continue
		}
		for range 3 {
			v.Proof = altered(r, n, v.Proof)
			e := sat.Check(n, list, v)
			if (e == api.OK) != isProof(n, list, v.Proof) {
				t.Fatalf("Check(%d, %v, %v) = %d", n, list, v, e)
			}
			count[e]++
			if len(v.Proof) == 0 {
				break
			}
		}
	}
	if count[api.OK] < 500 || count[api.ErrProof] < 500 || len(count) != 2 {
		t.Errorf("errors %v", count)
	}
}

// Random steps, which mostly do not follow.
func TestCheckRandomProofs(t *testing.T) {
	r := rand.New(rand.NewSource(38))
	count := map[api.Errno]int{}
	for range 20000 {
		n := 1 + r.Intn(4)
		list := random(r, n, 1+r.Intn(6*n), 1, 3)
		steps := append(random(r, n, r.Intn(3), 1, 2), []int{})
		e := sat.Check(n, list, proof(steps))
		if (e == api.OK) != isProof(n, list, steps) {
			t.Fatalf("Check(%d, %v, %v) = %d", n, list, steps, e)
		}
		count[e]++
	}
	if count[api.OK] < 500 || count[api.ErrProof] < 500 || len(count) != 2 {
		t.Errorf("errors %v", count)
	}
}

func TestCheckRandomModels(t *testing.T) {
	r := rand.New(rand.NewSource(39))
	for range 500 {
		n := r.Intn(5)
		var list [][]int
		if n > 0 {
			list = random(r, n, r.Intn(8), 0, 3)
		}
		for _, values := range assignments(n) {
			if e := sat.Check(n, list, model(values...)); (e == api.OK) != holds(list, values) || e != api.OK && e != api.ErrAnswer {
				t.Fatalf("Check(%d, %v, %v) = %d", n, list, values, e)
			}
		}
	}
}

func TestCheckLeavesItsArguments(t *testing.T) {
	n, list := holes(6, 5)
	v, _ := sat.Solve(n, list, api.MaxBudget)
	before, steps := cloned(list), cloned(v.Proof)
	mustCheck(t, n, list, v, api.OK)
	if !same(list, before) || !same(v.Proof, steps) {
		t.Errorf("Check changes its arguments")
	}
}
