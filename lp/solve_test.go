package lp_test

import (
	"math"
	"math/rand"
	"reflect"
	"testing"

	"acrospire/api"
	"acrospire/lp"
	"acrospire/num"
)

func TestSolveExamples(t *testing.T) {
	a := mustBe(t, program(t, "3 2", "1 1,1 3", "4 6"), api.Optimal, "12")
	if text(a.X) != "4 0" || text(a.Y) != "3 0" {
		t.Errorf("X %v, Y %v", a.X, a.Y)
	}
	mustBe(t, program(t, "1", "-1", "0"), api.Unbounded, "0")
	a = mustBe(t, program(t, "0", "1,-1", "1 -2"), api.Infeasible, "0")
	if len(a.Y) != 2 || a.Y[0].Cmp(a.Y[1]) != 0 {
		t.Errorf("Y %v", a.Y)
	}
}

func TestSolveSmallPrograms(t *testing.T) {
	list := []struct {
		c, rows, b string
		status     int
		value      string
	}{
		{"", "", "", api.Optimal, "0"},
		{"0", "", "", api.Optimal, "0"},
		{"-5 0", "", "", api.Optimal, "0"},
		{"-5 1", "", "", api.Unbounded, "0"},
		{"7", "3", "2", api.Optimal, "14/3"},
		{"7", "0", "2", api.Unbounded, "0"},
		{"-7", "0", "2", api.Optimal, "0"},
		{"7", "0", "-1", api.Infeasible, "0"},
		{"-7", "0", "-1", api.Infeasible, "0"},
		{"7", "0,3", "0 2", api.Optimal, "14/3"},
		{"7 1", "1 0", "1", api.Unbounded, "0"},
		{"0 0", "-1 -1", "-3", api.Optimal, "0"},
		// A right side that is negative asks for at least so much.
		{"-1", "-3", "-1", api.Optimal, "-1/3"},
		{"1", "-3", "-1", api.Unbounded, "0"},
		{"-2 -3", "-1 -1,1 0", "-10 4", api.Optimal, "-26"},
		{"-2 -3", "-1 -1,1 0,0 1", "-10 4 5", api.Infeasible, "0"},
		{"1 1", "1 -1,-1 1", "-1 -1", api.Infeasible, "0"},
		{"1 1", "1 -1,-1 1", "-1 1", api.Unbounded, "0"},
		{"-1 -2", "1 -1,-1 1", "-1 1", api.Optimal, "-2"},
		// An equation, and the same twice.
		{"1 2 3", "1 1 1,-1 -1 -1", "5 -5", api.Optimal, "15"},
		{"1 2 3", "1 1 1,-1 -1 -1,1 1 1,-1 -1 -1", "5 -5 5 -5", api.Optimal, "15"},
		// The only solution is 0.
		{"4 9", "1 1", "0", api.Optimal, "0"},
		{"4 9", "1 1", "-1", api.Infeasible, "0"},
		// Several optima, several vertices with the same place.
		{"1 1", "1 1", "1", api.Optimal, "1"},
		{"1 1", "1 0,0 1,1 1,2 1,1 2", "1 1 2 3 3", api.Optimal, "2"},
		// The gain grows although each variable alone cannot grow.
		{"2 -1", "1 -1", "0", api.Unbounded, "0"},
		{"1 -1", "1 -1", "0", api.Optimal, "0"},
	}
	for _, x := range list {
		mustBe(t, program(t, x.c, x.rows, x.b), x.status, x.value)
	}
}

func TestSolveWithoutVariables(t *testing.T) {
	mustBe(t, api.Program{}, api.Optimal, "0")
	for m := 1; m <= api.MaxRows; m++ {
		mustBe(t, uniform(0, m, 0), api.Optimal, "0")
		mustBe(t, uniform(0, m, 7), api.Optimal, "0")
		p := uniform(0, m, 7)
		p.B[m-1] = -1
		mustBe(t, p, api.Infeasible, "0")
	}
}

func TestSolveWithoutConstraints(t *testing.T) {
	for n := 1; n <= api.MaxVars; n++ {
		mustBe(t, uniform(n, 0, -1), api.Optimal, "0")
		p := uniform(n, 0, -1)
		p.C[n-1] = 1
		mustBe(t, p, api.Unbounded, "0")
	}
}

// cycles returns programs for which the method does not end if, of the variables that
// can leave the basis, it takes the one in the first row, in the last row, or the last
// one: first while the gain is raised, then while negative variables are mended.
func cycles(t *testing.T) []api.Program {
	return []api.Program{
		program(t, "-2 -1 2 3", "-3 4 -2 1,-2 2 -1 1,-2 1 4 2,1 4 2 1,-3 5 -1 2", "0 0 0 0 0"),
		program(t, "-2 2 -6 6 -1", "-3 -2 -1 0 -5,-5 -1 2 -5 -2,-4 4 -3 6 -5", "0 0 0"),
		program(t, "-4 -1 1 3 3 3", "-1 -4 -1 -1 -1 1,1 -3 3 4 1 -3,3 -2 -4 -4 -3 -4", "0 0 0"),
		program(t, "-3 5 1 -4 -5", "4 5 -1 -2 -2,5 -1 2 1 -5,-2 2 -1 4 -5,-1 4 -3 -4 -2", "0 0 0 0"),
		program(t, "2 1 2 2", "4 4 -1 2,4 -1 -2 -3,-4 0 -4 -1,0 4 -4 -3,1 2 -3 2", "0 0 0 0 0"),
		program(t, "3 -3 1 2 -3", "4 1 2 1 0,-4 3 -1 -1 2,1 -1 1 0 4,-4 -2 3 -4 0", "0 0 0 0"),
		program(t, "-1 4 0 2 2 3", "3 0 1 -2 -4 0,2 2 -4 -3 -4 -1,3 4 2 1 -2 -1", "-1 -2 -2"),
		program(t, "2 -2 -3 -1", "-1 -2 3 1,-4 -5 -2 -5,-1 -5 -1 -5,1 -5 -2 1,5 -2 4 3", "0 -1 0 0 -2"),
		program(t, "6 4 -1 0 1 2", "6 -1 1 -4 -5 -1,6 2 0 4 6 0,-5 1 5 5 -4 1", "-2 0 0"),
		program(t, "-2 0 -2 -2 3", "5 0 1 1 2,2 5 -3 -5 -5,-4 3 5 -4 2,-4 2 1 -3 2", "0 0 -1 -1"),
		program(t, "3 4 0 0", "-3 4 3 4,1 2 3 -4,-1 3 0 -4,-4 0 0 2,0 -3 -3 -4", "-2 -1 -1 -1 0"),
		program(t, "-1 4 2 -5", "5 -1 0 3,4 -1 1 -2,5 5 4 3,2 -1 5 -4,5 -2 -1 -3", "-1 -1 -1 0 -1"),
	}
}

// In these programs pivots tie again and again; with the rule of the greatest
// coefficient the simplex method returns to the same basis for ever.
func TestSolveWherePivotsTie(t *testing.T) {
	mustBe(t, program(t, "3 -80 2 -24", "1 -32 -4 36,1 -24 -1 6,0 0 1 0", "0 0 1"), api.Optimal, "5")
	mustBe(t, program(t, "10 -57 -9 -24", "1 -11 -5 18,1 -3 -1 2,1 0 0 0", "0 0 1"), api.Optimal, "1")
	mustBe(t, program(t, "1 -2 0 1 -2 0", "1 -2 -1 0 0 0,0 1 -2 -1 0 0,0 0 1 -2 -1 0,0 0 0 1 -2 -1", "0 0 0 0"), api.Unbounded, "0")
	for _, p := range cycles(t) {
		solved(t, p)
	}
	for n := 0; n <= api.MaxVars; n++ {
		for m := 0; m <= api.MaxRows; m++ {
			for _, c := range []int{-1, 0, 1, api.MaxCoef, -api.MaxCoef} {
				solved(t, uniform(n, m, c))
			}
		}
	}
	r := rand.New(rand.NewSource(21))
	for range 400 {
		p := random(r, r.Intn(api.MaxVars+1), r.Intn(api.MaxRows+1), 2, r.Intn(8))
		for i := range p.B {
			p.B[i] = 0
		}
		solved(t, p)
		for i := range p.B {
			p.B[i] = -r.Intn(2)
		}
		solved(t, p)
	}
}

// The path of the method along the edges of such a cube is long.
func TestSolveCubes(t *testing.T) {
	for n := 1; n <= 8; n++ {
		p := uniform(n, n, 0)
		bound := 1
		for i := range n {
			bound *= 5
			p.C[i] = 1 << (n - 1 - i)
			p.A[i][i] = 1
			p.B[i] = bound
			for k := range i {
				p.A[i][k] = 2 << (i - k)
			}
		}
		mustBe(t, p, api.Optimal, num.Of(bound).String())
	}
}

func TestSolveManyPrograms(t *testing.T) {
	r := rand.New(rand.NewSource(22))
	count := map[int]int{}
	for i := range 1200 {
		size := []int{1, 2, 9, 1000, api.MaxCoef}[i%5]
		p := random(r, r.Intn(api.MaxVars+1), r.Intn(api.MaxRows+1), size, r.Intn(9))
		if r.Intn(2) == 0 {
			for i, b := range p.B {
				p.B[i] = max(b, -b)
			}
		}
		count[solved(t, p).Status]++
	}
	for status := api.Optimal; status <= api.Unbounded; status++ {
		if count[status] < 100 {
			t.Errorf("status %d occurred %d times", status, count[status])
		}
	}
}

// These answers contain the longest fractions.
func TestSolveTheGreatestPrograms(t *testing.T) {
	r := rand.New(rand.NewSource(23))
	longest := 0
	for range 60 {
		p := random(r, api.MaxVars, api.MaxRows, 0, 0)
		for i, row := range p.A {
			for k := range row {
				row[k] = api.MaxCoef - r.Intn(9)
				if r.Intn(2) == 0 {
					row[k] = -row[k]
				}
			}
			p.B[i] = api.MaxCoef - r.Intn(1000)
		}
		for k := range p.C {
			p.C[k] = api.MaxCoef - r.Intn(1000)
		}
		longest = max(longest, solved(t, p).Value.Num().BitLen())
		for i := range p.B {
			p.B[i] -= r.Intn(2) * 2 * p.B[i]
		}
		solved(t, p)
	}
	if longest < 150 {
		t.Errorf("the longest value has only %d digits", longest)
	}
}

// invalid returns programs that are wrong in one respect.
func invalid() map[string]api.Program {
	list := map[string]api.Program{
		"too many variables":    uniform(api.MaxVars+1, 1, 1),
		"too many variables, 0": uniform(api.MaxVars+1, 0, 1),
		"too many constraints":  uniform(1, api.MaxRows+1, 1),
		"too many and empty":    uniform(0, api.MaxRows+1, 1),
		"far too many":          uniform(100000, 0, 1),
		"B without A":           {C: []int{1}, B: []int{1}},
		"A without B":           {C: []int{1}, A: [][]int{{1}}},
		"B too short":           {C: []int{1}, A: [][]int{{1}, {1}}, B: []int{1}},
		"B too long":            {C: []int{1}, A: [][]int{{1}}, B: []int{1, 1}},
		"a short row":           {C: []int{1, 1}, A: [][]int{{1, 1}, {1}}, B: []int{1, 1}},
		"a long row":            {C: []int{1, 1}, A: [][]int{{1, 1, 0}, {1, 1}}, B: []int{1, 1}},
		"a nil row":             {C: []int{1}, A: [][]int{{1}, nil}, B: []int{1, 1}},
		"a row without C":       {A: [][]int{{1}}, B: []int{1}},
	}
	for name, c := range map[string]int{"above": api.MaxCoef + 1, "below": -api.MaxCoef - 1, "most": math.MaxInt, "least": math.MinInt} {
		p, q, s := uniform(2, 2, 1), uniform(2, 2, 1), uniform(2, 2, 1)
		p.C[1], q.A[1][1], s.B[1] = c, c, c
		list["C "+name], list["A "+name], list["B "+name] = p, q, s
	}
	return list
}

func TestSolveInvalidPrograms(t *testing.T) {
	for name, p := range invalid() {
		if a, e := lp.Solve(p); e != api.ErrArg || !isZero(a) {
			t.Errorf("%s: Solve = %v, %d", name, a, e)
		}
	}
}

func TestSolveLimits(t *testing.T) {
	solved(t, uniform(api.MaxVars, api.MaxRows, 1))
	for _, c := range []int{api.MaxCoef, -api.MaxCoef} {
		p, q, s := uniform(2, 2, 1), uniform(2, 2, 1), uniform(2, 2, 1)
		p.C[1], q.A[1][1], s.B[1] = c, c, c
		solved(t, p)
		solved(t, q)
		solved(t, s)
	}
	mustBe(t, program(t, "1048576", "1", "1048576"), api.Optimal, "1099511627776")
	mustBe(t, program(t, "-1048576", "-1", "-1048576"), api.Optimal, "-1099511627776")
}

func TestSolveLeavesItsArguments(t *testing.T) {
	r := rand.New(rand.NewSource(24))
	for range 50 {
		p := random(r, 5, 5, 4, 3)
		before := cloned(p)
		a := solved(t, p)
		if !reflect.DeepEqual(p, before) {
			t.Fatalf("%v became %v", before, p)
		}
		b := solved(t, p)
		if a.Status != b.Status || text(a.X) != text(b.X) || text(a.Y) != text(b.Y) || text(a.Ray) != text(b.Ray) {
			t.Fatalf("%v: first %v, then %v", p, a, b)
		}
		for _, list := range [][]num.Rat{a.X, a.Y, a.Ray} {
			for i := range list {
				list[i] = num.Of(77)
			}
		}
		if !isRight(p, b) || !isRight(p, solved(t, p)) {
			t.Fatalf("%v: answers share memory", p)
		}
	}
}
