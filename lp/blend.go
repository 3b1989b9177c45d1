package lp

import "acrospire/api"

// Mix returns the answer to the program of a blend: the cheapest mixture, if any.
func Mix(b api.Blend) (Answer, api.Errno) {
	p, err := ToProgram(b)
	if err != api.OK {
		return Answer{}, err
	}
	return Solve(p)
}

// ToProgram returns the program whose variables are the amounts of the malts, and
// whose gain is the negated price.
func ToProgram(b api.Blend) (api.Program, api.Errno) {
	if !isBlend(b) {
		return api.Program{}, api.ErrArg
	}
	var p api.Program
	add := func(bound int, coefficient func(i int) int) {
		p.A = append(p.A, perMalt(b, coefficient))
		p.B = append(p.B, bound)
	}
	p.C = perMalt(b, func(i int) int { return -b.Malts[i].Price })
	add(b.Amount, func(int) int { return 1 })
	add(-b.Amount, func(int) int { return -1 })
	for own, malt := range b.Malts {
		add(malt.Stock, func(i int) int {
			if i == own {
				return 1
			}
			return 0
		})
	}
	for k, high := range b.High {
		add(0, func(i int) int { return b.Malts[i].Props[k] - high })
	}
	for k, low := range b.Low {
		add(0, func(i int) int { return low - b.Malts[i].Props[k] })
	}
	return p, api.OK
}

func perMalt(b api.Blend, number func(i int) int) []int {
	row := make([]int, len(b.Malts))
	for i := range row {
		row[i] = number(i)
	}
	return row
}

func isBlend(b api.Blend) bool {
	n, p := len(b.Malts), len(b.Low)
	if n < 1 || n > api.MaxVars || len(b.High) != p || 2+n+2*p > api.MaxRows || !isAmount(b.Amount) {
		return false
	}
	for _, malt := range b.Malts {
		if !isAmount(malt.Stock) || !isAmount(malt.Price) || len(malt.Props) != p || !areProps(malt.Props) {
			return false
		}
	}
	return areProps(b.Low) && areProps(b.High) && areOrdered(b.Low, b.High)
}

func isAmount(n int) bool {
	return n >= 0 && n <= api.MaxCoef
}

func areProps(numbers []int) bool {
	return areWithin(numbers, api.MaxCoef/2)
}

// areOrdered tells whether no number of low is greater than that of high. The lists
// are of equal length.
func areOrdered(low, high []int) bool {
	for k := range low {
		if low[k] > high[k] {
			return false
		}
	}
	return true
}
