package lots

import (
	"slices"

	"acrospire/api"
)

// Receive makes an origin, and returns its number.
func (b *Book) Receive(mass int) (int, api.Errno) {
	if !b.isUsable() {
		return 0, api.ErrUnusable
	}
	if !isMass(mass) {
		return 0, api.ErrArg
	}
	return b.enter(mass, nil)
}

// Blend makes a lot of parts of others, and returns its number.
func (b *Book) Blend(parts []api.Part) (int, api.Errno) {
	if e := b.checkParts(parts); e != api.OK {
		return 0, e
	}
	parts = merge(parts)
	total := 0
	for _, p := range parts {
		if p.Mass > b.lots[p.Lot].left {
			return 0, api.ErrMass
		}
		total += p.Mass
	}
	if total > api.MaxMass {
		return 0, api.ErrMass
	}
	lot, e := b.enter(total, parts)
	if e != api.OK {
		return 0, e
	}
	for _, p := range parts {
		b.lots[p.Lot].left -= p.Mass
	}
	return lot, api.OK
}

// Ship takes a mass from a lot to a customer.
func (b *Book) Ship(lot, mass int) api.Errno {
	if e := b.take(lot, mass); e != api.OK {
		return e
	}
	b.lots[lot].shipped += mass
	return api.OK
}

// Discard takes a mass from a lot that nobody will use.
func (b *Book) Discard(lot, mass int) api.Errno {
	if e := b.take(lot, mass); e != api.OK {
		return e
	}
	b.lots[lot].discarded += mass
	return api.OK
}

func isMass(mass int) bool {
	return mass >= 1 && mass <= api.MaxMass
}

// enter makes a lot of parts, which it keeps.
func (b *Book) enter(mass int, parts []api.Part) (int, api.Errno) {
	if len(b.lots) == api.MaxLots {
		return 0, api.ErrFull
	}
	b.lots = append(b.lots, record{made: mass, left: mass, parts: parts})
	return len(b.lots) - 1, api.OK
}

func (b *Book) take(lot, mass int) api.Errno {
	if e := b.find(lot); e != api.OK {
		return e
	}
	if !isMass(mass) {
		return api.ErrArg
	}
	if mass > b.lots[lot].left {
		return api.ErrMass
	}
	b.lots[lot].left -= mass
	return api.OK
}

// checkParts returns the error of a blend whose parts are wrong whatever is left of
// their lots.
func (b *Book) checkParts(parts []api.Part) api.Errno {
	if !b.isUsable() {
		return api.ErrUnusable
	}
	if len(parts) < 1 || len(parts) > api.MaxParts {
		return api.ErrArg
	}
	for _, p := range parts {
		if !isMass(p.Mass) {
			return api.ErrArg
		}
	}
	for _, p := range parts {
		if !b.has(p.Lot) {
			return api.ErrNone
		}
	}
	return api.OK
}

// merge returns the parts, those of one lot being made one at the position of the first.
func merge(parts []api.Part) []api.Part {
	var merged []api.Part
	for _, p := range parts {
		i := slices.IndexFunc(merged, func(m api.Part) bool { return m.Lot == p.Lot })
		if i < 0 {
			merged = append(merged, p)
		} else {
			merged[i].Mass += p.Mass
		}
	}
	return merged
}
