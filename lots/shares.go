package lots

import (
	"slices"

	"acrospire/api"
	"acrospire/num"
)

// Share is the share of an origin in a lot.
type Share struct {
	Lot  int
	Part num.Rat
}

// Shares returns the shares of all origins that a lot contains.
func (b *Book) Shares(lot int) ([]Share, api.Errno) {
	if e := b.find(lot); e != api.OK {
		return nil, e
	}
	made := b.lots[:lot+1]
	whole := unitsOfMass(made)
	units := map[int]num.Int{lot: whole}
	traceBack(made, units)
	var shares []Share
	for number, r := range made {
		if r.isOrigin() && units[number].Sign() > 0 {
			shares = append(shares, Share{number, fraction(units[number], whole)})
		}
	}
	return shares, api.OK
}

// Exposure returns how much of an origin is left, in all lots, and how much was shipped.
func (b *Book) Exposure(lot int) (num.Rat, num.Rat, api.Errno) {
	if e := b.find(lot); e != api.OK {
		return num.Rat{}, num.Rat{}, e
	}
	if !b.lots[lot].isOrigin() {
		return num.Rat{}, num.Rat{}, api.ErrArg
	}
	left := b.stemming(lot, func(r record) int { return r.left })
	shipped := b.stemming(lot, func(r record) int { return r.shipped })
	return left, shipped, api.OK
}

// stemming returns how much of certain masses of all lots comes from an origin.
func (b *Book) stemming(origin int, mass func(r record) int) num.Rat {
	whole := unitsOfMass(b.lots)
	units := map[int]num.Int{}
	for number, r := range b.lots {
		units[number] = product(whole, mass(r))
	}
	traceBack(b.lots, units)
	return fraction(units[origin], whole)
}

// unitsOfMass returns how many units a mass of 1 has: so many that traceBack always
// divides without a rest. A book has at most 2^10240 of them, so that the units of all
// masses are within the range of num.
func unitsOfMass(lots []record) num.Int {
	units := num.New(1)
	for _, r := range lots {
		units = product(units, r.made)
	}
	return units
}

// traceBack adds the units that lots have, by their numbers, to those of the lots that
// they were made of. These have lower numbers, and are visited later.
func traceBack(lots []record, units map[int]num.Int) {
	for number, r := range slices.Backward(lots) {
		perMass, _, _ := units[number].Div(num.New(r.made))
		for _, p := range r.parts {
			units[p.Lot], _ = units[p.Lot].Add(product(perMass, p.Mass))
		}
	}
}

func product(n num.Int, by int) num.Int {
	result, _ := n.Mul(num.New(by))
	return result
}

func fraction(n, whole num.Int) num.Rat {
	result, _ := num.NewRat(n, whole)
	return result
}
