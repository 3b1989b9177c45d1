package lp

import (
	"acrospire/api"
	"acrospire/num"
)

// mostBits is the number of binary digits that a right answer needs at most. Sums of
// such fractions times coefficients fit easily, so that no operation here fails.
const mostBits = 512

// Check tells whether a is a right answer for p.
func Check(p api.Program, a Answer) api.Errno {
	if !isValid(p) {
		return api.ErrArg
	}
	if !isRight(p, a) {
		return api.ErrAnswer
	}
	return api.OK
}

func isRight(p api.Program, a Answer) bool {
	if !isShort(a.Value) || !areShort(a.X) || !areShort(a.Y) || !areShort(a.Ray) {
		return false
	}
	switch a.Status {
	case api.Optimal:
		return isOptimum(p, a)
	case api.Infeasible:
		return isContradiction(p, a)
	case api.Unbounded:
		return isWayOut(p, a)
	}
	return false
}

// isOptimum: Y proves that no gain is greater than that of X.
func isOptimum(p api.Program, a Answer) bool {
	return len(a.Ray) == 0 && isSolution(p, a.X) && dominates(p, a.Y, p.C) &&
		weigh(p.C, a.X).Cmp(a.Value) == 0 && weigh(p.B, a.Y).Cmp(a.Value) == 0
}

// isContradiction: no sum of the constraints with weights Y can hold.
func isContradiction(p api.Program, a Answer) bool {
	return len(a.X) == 0 && len(a.Ray) == 0 && a.Value.Sign() == 0 &&
		dominates(p, a.Y, make([]int, len(p.C))) && weigh(p.B, a.Y).Sign() < 0
}

// isWayOut: from X the gain grows without end in the direction of Ray.
func isWayOut(p api.Program, a Answer) bool {
	return len(a.Y) == 0 && a.Value.Sign() == 0 && isSolution(p, a.X) &&
		keepsBelow(p, a.Ray, make([]int, len(p.A))) && weigh(p.C, a.Ray).Sign() > 0
}

func isSolution(p api.Program, x []num.Rat) bool {
	return keepsBelow(p, x, p.B)
}

// keepsBelow tells whether x has a fraction for each variable, none of them negative,
// and no row times x is greater than its bound.
func keepsBelow(p api.Program, x []num.Rat, bounds []int) bool {
	if len(x) != len(p.C) || !areNatural(x) {
		return false
	}
	for i, row := range p.A {
		if weigh(row, x).Cmp(num.Of(bounds[i])) > 0 {
			return false
		}
	}
	return true
}

// dominates tells whether y has a fraction for each constraint, none of them negative,
// and no column times y is less than its bound.
func dominates(p api.Program, y []num.Rat, bounds []int) bool {
	if len(y) != len(p.A) || !areNatural(y) {
		return false
	}
	for k, bound := range bounds {
		if weigh(column(p.A, k), y).Cmp(num.Of(bound)) < 0 {
			return false
		}
	}
	return true
}

func column(rows [][]int, k int) []int {
	numbers := make([]int, len(rows))
	for i, row := range rows {
		numbers[i] = row[k]
	}
	return numbers
}

// weigh returns the sum of the coefficients times the fractions.
func weigh(coefficients []int, fractions []num.Rat) num.Rat {
	total := num.Of(0)
	for k, c := range coefficients {
		term, _ := fractions[k].Mul(num.Of(c))
		total, _ = total.Add(term)
	}
	return total
}

func areNatural(list []num.Rat) bool {
	for _, f := range list {
		if f.Sign() < 0 {
			return false
		}
	}
	return true
}

func isShort(f num.Rat) bool {
	return f.Num().BitLen() <= mostBits && f.Den().BitLen() <= mostBits
}

func areShort(list []num.Rat) bool {
	for _, f := range list {
		if !isShort(f) {
			return false
		}
	}
	return true
}
