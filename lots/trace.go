package lots

import "acrospire/api"

// Recall returns all lots that contain a lot.
func (b *Book) Recall(lot int) ([]int, api.Errno) {
	if e := b.find(lot); e != api.OK {
		return nil, e
	}
	return containers(b.gather(set.or), lot).list(), api.OK
}

// Gates returns all lots that lie on every path from an origin to a lot.
func (b *Book) Gates(lot int) ([]int, api.Errno) {
	if e := b.find(lot); e != api.OK {
		return nil, e
	}
	// What lies on every path to a lot is the lot, and what lies on every path to each lot
	// of its parts.
	return b.gather(set.and)[lot].list(), api.OK
}

// Suspects returns all lots that all bad lots contain, and no good one.
func (b *Book) Suspects(bad, good []int) ([]int, api.Errno) {
	if !b.isUsable() {
		return nil, api.ErrUnusable
	}
	if !b.haveAll(bad) || !b.haveAll(good) {
		return nil, api.ErrNone
	}
	guilty, innocent := setOf(bad), setOf(good)
	contents := b.gather(set.or)
	var suspects []int
	for lot := range b.lots {
		recalled := containers(contents, lot)
		if recalled.and(guilty) == guilty && recalled.and(innocent) == (set{}) {
			suspects = append(suspects, lot)
		}
	}
	return suspects, api.OK
}

func (b *Book) haveAll(lots []int) bool {
	for _, lot := range lots {
		if !b.has(lot) {
			return false
		}
	}
	return true
}

// gather returns a set for each lot, which is the lot itself and the sets of the lots of
// its parts, joined.
func (b *Book) gather(join func(one, other set) set) []set {
	sets := make([]set, len(b.lots))
	for lot, r := range b.lots {
		for i, p := range r.parts {
			if i == 0 {
				sets[lot] = sets[p.Lot]
			} else {
				sets[lot] = join(sets[lot], sets[p.Lot])
			}
		}
		sets[lot] = sets[lot].with(lot)
	}
	return sets
}

// containers returns the lots that contain a lot, by the contents of all lots.
func containers(contents []set, lot int) set {
	var found set
	for number, content := range contents {
		if content.has(lot) {
			found = found.with(number)
		}
	}
	return found
}

// A set of lots has a bit for each of them.
type set [api.MaxLots / 64]uint64

func setOf(lots []int) set {
	var s set
	for _, lot := range lots {
		s = s.with(lot)
	}
	return s
}

func (s set) has(lot int) bool {
	return s[lot/64]>>(lot%64)&1 == 1
}

func (s set) with(lot int) set {
	s[lot/64] |= 1 << (lot % 64)
	return s
}

func (s set) and(other set) set {
	for i, bits := range other {
		s[i] &= bits
	}
	return s
}

func (s set) or(other set) set {
	for i, bits := range other {
		s[i] |= bits
	}
	return s
}

// list returns the lots of a set in ascending order.
func (s set) list() []int {
	var lots []int
	for lot := range api.MaxLots {
		if s.has(lot) {
			lots = append(lots, lot)
		}
	}
	return lots
}
