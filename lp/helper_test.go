package lp_test

import (
	"math/big"
	"math/rand"
	"slices"
	"strings"
	"testing"

	"acrospire/api"
	"acrospire/lp"
	"acrospire/num"
)

// The tests compare with an independent reading of the chapter, in math/big.

// numbers reads a list of integers.
func numbers(t *testing.T, text string) []int {
	t.Helper()
	list := []int{}
	for _, f := range fractions(t, text) {
		n, fits := f.Floor().Int()
		if !fits {
			t.Fatalf("%s is no int", f)
		}
		list = append(list, n)
	}
	return list
}

// program reads the lists of a program; rows are separated by commas.
func program(t *testing.T, c, rows, b string) api.Program {
	t.Helper()
	p := api.Program{C: numbers(t, c), B: numbers(t, b)}
	if rows != "" {
		for row := range strings.SplitSeq(rows, ",") {
			p.A = append(p.A, numbers(t, row))
		}
	}
	return p
}

// fractions reads a list of fractions.
func fractions(t *testing.T, text string) []num.Rat {
	t.Helper()
	var list []num.Rat
	for _, s := range strings.Fields(text) {
		list = append(list, fraction(t, s))
	}
	return list
}

func fraction(t *testing.T, s string) num.Rat {
	t.Helper()
	f, e := num.ParseRat(s)
	if e != api.OK {
		t.Fatalf("ParseRat(%s) = %d", s, e)
	}
	return f
}

// text is what fractions reads.
func text(list []num.Rat) string {
	var words []string
	for _, f := range list {
		words = append(words, f.String())
	}
	return strings.Join(words, " ")
}

func exact(f num.Rat) *big.Rat {
	r, _ := new(big.Rat).SetString(f.String())
	return r
}

func exactList(list []num.Rat) []*big.Rat {
	var result []*big.Rat
	for _, f := range list {
		result = append(result, exact(f))
	}
	return result
}

// dot returns the sum of the products.
func dot(coefficients []int, list []*big.Rat) *big.Rat {
	total := new(big.Rat)
	for k, c := range coefficients {
		total.Add(total, new(big.Rat).Mul(new(big.Rat).SetInt64(int64(c)), list[k]))
	}
	return total
}

func transposed(p api.Program) [][]int {
	columns := make([][]int, len(p.C))
	for k := range columns {
		for _, row := range p.A {
			columns[k] = append(columns[k], row[k])
		}
	}
	return columns
}

// isVector tells whether a list has n fractions, none of them negative.
func isVector(list []*big.Rat, n int) bool {
	return len(list) == n && !slices.ContainsFunc(list, func(f *big.Rat) bool { return f.Sign() < 0 })
}

// holds tells whether for each row sign times (row times list, minus bound) is at most 0.
func holds(rows [][]int, list []*big.Rat, bounds []int, sign int) bool {
	for i, row := range rows {
		if sign*dot(row, list).Cmp(new(big.Rat).SetInt64(int64(bounds[i]))) > 0 {
			return false
		}
	}
	return true
}

// isRight tells whether an answer is right for a valid program.
func isRight(p api.Program, a lp.Answer) bool {
	for _, f := range slices.Concat([]num.Rat{a.Value}, a.X, a.Y, a.Ray) {
		if f.Num().BitLen() > 512 || f.Den().BitLen() > 512 {
			return false
		}
	}
	n, m := len(p.C), len(p.A)
	x, y, ray, value := exactList(a.X), exactList(a.Y), exactList(a.Ray), exact(a.Value)
	isSolution := isVector(x, n) && holds(p.A, x, p.B, 1)
	switch a.Status {
	case 1:
		return len(ray) == 0 && isSolution && isVector(y, m) && holds(transposed(p), y, p.C, -1) &&
			dot(p.C, x).Cmp(value) == 0 && dot(p.B, y).Cmp(value) == 0
	case 2:
		return len(x) == 0 && len(ray) == 0 && value.Sign() == 0 &&
			isVector(y, m) && holds(transposed(p), y, make([]int, n), -1) && dot(p.B, y).Sign() < 0
	case 3:
		return len(y) == 0 && value.Sign() == 0 && isSolution &&
			isVector(ray, n) && holds(p.A, ray, make([]int, m), 1) && dot(p.C, ray).Sign() > 0
	}
	return false
}

// solved returns the answer of Solve, which must be right and pass Check.
func solved(t *testing.T, p api.Program) lp.Answer {
	t.Helper()
	a, e := lp.Solve(p)
	if e != api.OK || !isRight(p, a) {
		t.Fatalf("Solve(%v) = %v, %d, which is not right", p, a, e)
	}
	if e := lp.Check(p, a); e != api.OK {
		t.Fatalf("Check(%v, %v) = %d", p, a, e)
	}
	return a
}

// mustBe checks the status and the value of the answer of Solve.
func mustBe(t *testing.T, p api.Program, status int, value string) lp.Answer {
	t.Helper()
	a := solved(t, p)
	if a.Status != status || a.Value.String() != value {
		t.Errorf("Solve(%v): status %d, value %s; want %d, %s", p, a.Status, a.Value, status, value)
	}
	return a
}

func isZero(a lp.Answer) bool {
	return a.Status == 0 && a.Value.Sign() == 0 && len(a.X) == 0 && len(a.Y) == 0 && len(a.Ray) == 0
}

func filled(length, n int) []int {
	list := make([]int, length)
	for i := range list {
		list[i] = n
	}
	return list
}

// uniform returns the program of n variables and m constraints, all of whose numbers are c.
func uniform(n, m, c int) api.Program {
	p := api.Program{C: filled(n, c), B: filled(m, c)}
	for range m {
		p.A = append(p.A, filled(n, c))
	}
	return p
}

// random returns a program with numbers from -size to size, of which zeros in ten are 0.
func random(r *rand.Rand, n, m, size, zeros int) api.Program {
	p := uniform(n, m, 0)
	for _, row := range append(slices.Clone(p.A), p.C, p.B) {
		for k := range row {
			if r.Intn(10) >= zeros {
				row[k] = r.Intn(2*size+1) - size
			}
		}
	}
	return p
}

// cloned returns a copy that shares no memory.
func cloned(p api.Program) api.Program {
	q := api.Program{C: slices.Clone(p.C), B: slices.Clone(p.B)}
	for _, row := range p.A {
		q.A = append(q.A, slices.Clone(row))
	}
	return q
}
