package lp

import (
	"acrospire/api"
	"acrospire/num"
)

// none is the place of a row or a column that there is not.
const none = -1

// A tableau is a system of equations that has the same solutions as a program. Its
// variables are those of the program and then, for each constraint, the slack. Each
// row holds the coefficients of all variables and then the right side. The last row is
// that of the gain: the gain plus the variables times their coefficients is the right
// side.
//
// All numbers are multiplied by unit, which makes them integers: they are determinants
// of at most 13 rows of the program, and have less than 300 binary digits, so that no
// operation on them fails.
type tableau struct {
	rows  [][]num.Int
	basis []int // the variable that a row of a constraint determines if those outside of the basis are 0
	unit  num.Int
	vars  int // the number of the program's own variables
}

func newTableau(p api.Program) *tableau {
	n, m := len(p.C), len(p.A)
	t := &tableau{unit: num.New(1), vars: n}
	for i, coefficients := range p.A {
		row := make([]num.Int, n+m+1)
		for k, c := range coefficients {
			row[k] = num.New(c)
		}
		row[n+i] = num.New(1)
		row[n+m] = num.New(p.B[i])
		t.rows = append(t.rows, row)
		t.basis = append(t.basis, n+i)
	}
	gain := make([]num.Int, n+m+1)
	for k, c := range p.C {
		gain[k] = num.New(-c)
	}
	t.rows = append(t.rows, gain)
	return t
}

// settle pivots until the tableau shows an answer. It returns the status, and the row
// or, if the program is unbounded, the column that shows it.
//
// As long as the basis yields a negative variable, the gain does not matter, and the
// pivots are those of the dual method. Of several variables the first one is always
// chosen (Bland's rule): no basis recurs then, however often pivots tie.
func (t *tableau) settle() (status, place int) {
	last := len(t.basis)
choice:
	for {
		row := t.firstBelowZero()
		column := t.firstNegative(row)
		switch {
		case column == none && row == last:
			status, place = api.Optimal, row
			break choice
		case column == none:
			status, place = api.Infeasible, row
			break choice
		case row == last:
			row = t.tightest(column)
		}
		if row == none {
			status, place = api.Unbounded, column
			break choice
		}
		t.pivot(row, column)
	}
	return status, place
}

// firstBelowZero returns the row of the first variable of the basis that is negative,
// or the row of the gain if there is none.
func (t *tableau) firstBelowZero() int {
	last := len(t.basis)
	first := last
	for i, variable := range t.basis {
		if t.rightSide(i).Sign() < 0 && (first == last || variable < t.basis[first]) {
			first = i
		}
	}
	return first
}

// firstNegative returns the first variable that has a negative coefficient in a row.
func (t *tableau) firstNegative(row int) int {
	for k := range t.vars + len(t.basis) {
		if t.rows[row][k].Sign() < 0 {
			return k
		}
	}
	return none
}

// tightest returns the row that allows the variable of a column to grow least.
func (t *tableau) tightest(column int) int {
	best := none
	for i := range t.basis {
		if t.rows[i][column].Sign() > 0 && (best == none || t.isTighter(i, best, column)) {
			best = i
		}
	}
	return best
}

// isTighter tells whether row i is to be chosen rather than row j.
func (t *tableau) isTighter(i, j, column int) bool {
	one := times(t.rightSide(i), t.rows[j][column])
	other := times(t.rightSide(j), t.rows[i][column])
	order := one.Cmp(other)
	return order < 0 || order == 0 && t.basis[i] < t.basis[j]
}

// pivot puts the variable of a column into the basis, in place of that of a row.
func (t *tableau) pivot(row, column int) {
	chosen := t.rows[row]
	if chosen[column].Sign() < 0 {
		negate(chosen)
	}
	unit := chosen[column]
	// The division is exact because the results are determinants again.
	combine := func(line []num.Int) {
		factor := line[column]
		for k := range line {
			line[k] = quotient(minus(times(line[k], unit), times(chosen[k], factor)), t.unit)
		}
	}
	for i, line := range t.rows {
		if i != row {
			combine(line)
		}
	}
	t.basis[row] = column
	t.unit = unit
}

func (t *tableau) rightSide(row int) num.Int {
	return t.rows[row][t.vars+len(t.basis)]
}

// gain returns the gain of the solution.
func (t *tableau) gain() num.Rat {
	return t.share(t.rightSide(len(t.basis)))
}

// solution returns the program's variables if those outside of the basis are 0.
func (t *tableau) solution() []num.Rat {
	x := make([]num.Rat, t.vars)
	for i, variable := range t.basis {
		if variable < t.vars {
			x[variable] = t.share(t.rightSide(i))
		}
	}
	return x
}

// weights returns how often each constraint is contained in a row: it alone
// contributes its slack.
func (t *tableau) weights(row int) []num.Rat {
	y := make([]num.Rat, len(t.basis))
	for i := range y {
		y[i] = t.share(t.rows[row][t.vars+i])
	}
	return y
}

// direction returns how the program's variables change while that of a column grows.
func (t *tableau) direction(column int) []num.Rat {
	ray := make([]num.Rat, t.vars)
	if column < t.vars {
		ray[column] = num.Of(1)
	}
	for i, variable := range t.basis {
		if variable < t.vars {
			ray[variable] = t.share(t.rows[i][column]).Neg()
		}
	}
	return ray
}

// share returns the fraction that a number of the tableau stands for.
func (t *tableau) share(n num.Int) num.Rat {
	f, _ := num.NewRat(n, t.unit)
	return f
}

func negate(line []num.Int) {
	for k, n := range line {
		line[k] = n.Neg()
	}
}

func times(a, b num.Int) num.Int {
	product, _ := a.Mul(b)
	return product
}

func minus(a, b num.Int) num.Int {
	difference, _ := a.Sub(b)
	return difference
}

func quotient(a, b num.Int) num.Int {
	whole, _, _ := a.Div(b)
	return whole
}
