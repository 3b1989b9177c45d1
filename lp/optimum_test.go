package lp_test

import (
	"math/big"
	"math/rand"
	"testing"

	"acrospire/api"
	"acrospire/lp"
	"acrospire/num"
)

// corner solves the equations rows times x = bounds, if there is exactly one solution.
func corner(rows [][]int, bounds []int) ([]*big.Rat, bool) {
	n := len(rows)
	lines := make([][]*big.Rat, n)
	for i, row := range rows {
		for _, c := range row {
			lines[i] = append(lines[i], new(big.Rat).SetInt64(int64(c)))
		}
		lines[i] = append(lines[i], new(big.Rat).SetInt64(int64(bounds[i])))
	}
	for k := range n {
		i := k
		for i < n && lines[i][k].Sign() == 0 {
			i++
		}
		if i == n {
			return nil, false
		}
		lines[k], lines[i] = lines[i], lines[k]
		for j, line := range lines {
			if j != k {
				factor := new(big.Rat).Quo(line[k], lines[k][k])
				for c := range line {
					line[c] = new(big.Rat).Sub(line[c], new(big.Rat).Mul(factor, lines[k][c]))
				}
			}
		}
	}
	var x []*big.Rat
	for k := range n {
		x = append(x, new(big.Rat).Quo(lines[k][n], lines[k][k]))
	}
	return x, true
}

// corners returns all corners of the solutions of a program. It tries each choice of n
// equations among the rows and the variables.
func corners(p api.Program) [][]*big.Rat {
	n, m := len(p.C), len(p.A)
	var list [][]*big.Rat
	for set := range 1 << (n + m) {
		var rows [][]int
		var bounds []int
		for i := range n + m {
			switch {
			case set>>i&1 == 0:
			case i < m:
				rows, bounds = append(rows, p.A[i]), append(bounds, p.B[i])
			default:
				axis := make([]int, n)
				axis[i-m] = 1
				rows, bounds = append(rows, axis), append(bounds, 0)
			}
		}
		if len(rows) != n {
			continue
		}
		if x, ok := corner(rows, bounds); ok && isVector(x, n) && holds(p.A, x, p.B, 1) {
			list = append(list, x)
		}
	}
	return list
}

// best returns the greatest gain of the corners, or nil if there is none.
func best(p api.Program) *big.Rat {
	var gain *big.Rat
	for _, x := range corners(p) {
		if g := dot(p.C, x); gain == nil || g.Cmp(gain) > 0 {
			gain = g
		}
	}
	return gain
}

// directions returns the program whose solutions are the directions that p's
// solutions allow, up to a length.
func directions(p api.Program) api.Program {
	q := cloned(p)
	q.A = append(q.A, filled(len(p.C), 1))
	q.B = append(filled(len(p.A), 0), 1)
	return q
}

// expected returns the status and the greatest gain, found by trying all corners.
func expected(p api.Program) (int, *big.Rat) {
	gain := best(p)
	switch {
	case gain == nil:
		return api.Infeasible, new(big.Rat)
	case best(directions(p)).Sign() > 0:
		return api.Unbounded, new(big.Rat)
	}
	return api.Optimal, gain
}

func TestOptimumIsTheBestCorner(t *testing.T) {
	r := rand.New(rand.NewSource(29))
	count := map[int]int{}
	for i := range 700 {
		p := random(r, r.Intn(4), r.Intn(5), []int{1, 3, 50}[i%3], r.Intn(7))
		if r.Intn(2) == 0 {
			for i, b := range p.B {
				p.B[i] = max(b, -b)
			}
		}
		status, gain := expected(p)
		mustBe(t, p, status, gain.RatString())
		count[status]++
	}
	for status := api.Optimal; status <= api.Unbounded; status++ {
		if count[status] < 60 {
			t.Errorf("status %d occurred %d times", status, count[status])
		}
	}
}

// No solution on a grid has a greater gain than a right answer says.
func TestNoSolutionIsBetter(t *testing.T) {
	r := rand.New(rand.NewSource(30))
	for range 200 {
		p := random(r, 3, 4, 4, 2)
		a := solved(t, p)
		for code := range 7 * 7 * 7 {
			x := []*big.Rat{big.NewRat(int64(code%7), 2), big.NewRat(int64(code/7%7), 3), big.NewRat(int64(code/49), 4)}
			if !holds(p.A, x, p.B, 1) {
				continue
			}
			if a.Status == api.Infeasible || a.Status == api.Optimal && dot(p.C, x).Cmp(exact(a.Value)) > 0 {
				t.Fatalf("%v: %v, but %v is better", p, a, x)
			}
		}
	}
}

// An unbounded program has solutions of any gain, along the ray.
func TestUnboundedProgramsYieldAnyGain(t *testing.T) {
	r := rand.New(rand.NewSource(31))
	count := 0
	for range 500 {
		p := random(r, 1+r.Intn(5), r.Intn(5), 5, 4)
		a := solved(t, p)
		if a.Status != api.Unbounded {
			continue
		}
		count++
		x, ray := exactList(a.X), exactList(a.Ray)
		wanted := big.NewRat(1000000007, 1)
		steps := new(big.Rat).Sub(wanted, dot(p.C, x))
		steps.Quo(steps, dot(p.C, ray))
		for k := range x {
			x[k].Add(x[k], new(big.Rat).Mul(steps, ray[k]))
		}
		if !isVector(x, len(p.C)) || !holds(p.A, x, p.B, 1) || dot(p.C, x).Cmp(wanted) != 0 {
			t.Fatalf("%v, %v: %v is no solution of gain %v", p, a, x, wanted)
		}
	}
	if count < 100 {
		t.Errorf("only %d programs", count)
	}
}

// grid returns all lists of n fractions 0, 1, 2.
func grid(n int) [][]num.Rat {
	lists := [][]num.Rat{nil}
	for range n {
		var longer [][]num.Rat
		for _, list := range lists {
			for c := range 3 {
				longer = append(longer, append(append([]num.Rat{}, list...), num.Of(c)))
			}
		}
		lists = longer
	}
	return lists
}

// candidates returns answers of all statuses, right or not.
func candidates(p api.Program) []lp.Answer {
	var list []lp.Answer
	xs, ys := grid(len(p.C)), grid(len(p.A))
	for _, y := range ys {
		list = append(list, lp.Answer{Status: api.Infeasible, Y: y})
	}
	for _, x := range xs {
		value, _ := num.ParseRat(dot(p.C, exactList(x)).RatString())
		for _, y := range ys {
			list = append(list, lp.Answer{Status: api.Optimal, Value: value, X: x, Y: y})
		}
		for _, ray := range xs {
			list = append(list, lp.Answer{Status: api.Unbounded, X: x, Ray: ray})
		}
	}
	return list
}

// All right answers to a program have the same status, and the same value.
func TestOnlyOneStatusIsRight(t *testing.T) {
	r := rand.New(rand.NewSource(32))
	count := map[int]int{}
	for range 400 {
		p := random(r, 2, 2, 1, 1)
		want := solved(t, p)
		for _, a := range candidates(p) {
			if lp.Check(p, a) != api.OK {
				continue
			}
			count[a.Status]++
			if a.Status != want.Status || a.Value.Cmp(want.Value) != 0 {
				t.Fatalf("%v: both %v and %v pass", p, a, want)
			}
		}
	}
	for status := api.Optimal; status <= api.Unbounded; status++ {
		if count[status] < 20 {
			t.Errorf("status %d passed %d times", status, count[status])
		}
	}
}
