package lots_test

import (
	"math"
	"math/big"
	"math/rand"
	"reflect"
	"slices"
	"testing"

	"acrospire/api"
	"acrospire/lots"
)

// The tests compare with a plain reading of the chapter, by which a book is a list of
// lots, shares are sums over parts, and paths are listed one by one.

// A lot is what Mass and Parts tell of it.
type lot struct {
	made, left, shipped, discarded int
	parts                          []api.Part
}

// A model is what a book should be.
type model []lot

func part(lot, mass int) api.Part {
	return api.Part{Lot: lot, Mass: mass}
}

func parts(list ...api.Part) []api.Part {
	return list
}

func (m model) has(number int) bool {
	return 0 <= number && number < len(m)
}

// wrong tells whether this cannot be the mass of an act.
func wrong(mass int) bool {
	return mass < 1 || mass > 1<<40
}

func (m *model) receive(mass int) (int, api.Errno) {
	if wrong(mass) {
		return 0, api.ErrArg
	}
	if len(*m) == 256 {
		return 0, api.ErrFull
	}
	*m = append(*m, lot{made: mass, left: mass})
	return len(*m) - 1, api.OK
}

// demand returns the masses of the parts by their lots, and all of them.
func demand(list []api.Part) (map[int]int, int) {
	masses, total := map[int]int{}, 0
	for _, p := range list {
		masses[p.Lot] += p.Mass
		total += p.Mass
	}
	return masses, total
}

func (m *model) blend(list []api.Part) (int, api.Errno) {
	if len(list) == 0 || len(list) > 16 || slices.ContainsFunc(list, func(p api.Part) bool { return wrong(p.Mass) }) {
		return 0, api.ErrArg
	}
	if slices.ContainsFunc(list, func(p api.Part) bool { return !m.has(p.Lot) }) {
		return 0, api.ErrNone
	}
	masses, total := demand(list)
	for number, mass := range masses {
		if mass > (*m)[number].left {
			return 0, api.ErrMass
		}
	}
	if total > 1<<40 {
		return 0, api.ErrMass
	}
	if len(*m) == 256 {
		return 0, api.ErrFull
	}
	made := lot{made: total, left: total}
	for _, p := range list {
		if mass := masses[p.Lot]; mass > 0 {
			made.parts = append(made.parts, part(p.Lot, mass))
			(*m)[p.Lot].left -= mass
			masses[p.Lot] = 0
		}
	}
	*m = append(*m, made)
	return len(*m) - 1, api.OK
}

// take is Ship and Discard, apart from what they are for.
func (m model) take(number, mass int) api.Errno {
	if !m.has(number) {
		return api.ErrNone
	}
	if wrong(mass) {
		return api.ErrArg
	}
	if m[number].left < mass {
		return api.ErrMass
	}
	m[number].left -= mass
	return api.OK
}

func (m model) ship(number, mass int) api.Errno {
	e := m.take(number, mass)
	if e == api.OK {
		m[number].shipped += mass
	}
	return e
}

func (m model) discard(number, mass int) api.Errno {
	e := m.take(number, mass)
	if e == api.OK {
		m[number].discarded += mass
	}
	return e
}

// shares returns the share of an origin in each lot.
func (m model) shares(origin int) []*big.Rat {
	var list []*big.Rat
	for number, l := range m {
		share := new(big.Rat)
		if number == origin {
			share.SetInt64(1)
		}
		for _, p := range l.parts {
			fraction := big.NewRat(int64(p.Mass), int64(l.made))
			share.Add(share, fraction.Mul(fraction, list[p.Lot]))
		}
		list = append(list, share)
	}
	return list
}

func (m model) isOrigin(number int) bool {
	return len(m[number].parts) == 0
}

// contains tells whether a lot contains another one.
func (m model) contains(number, other int) bool {
	return number == other || slices.ContainsFunc(m[number].parts, func(p api.Part) bool {
		return m.contains(p.Lot, other)
	})
}

// paths returns all paths from an origin to a lot.
func (m model) paths(number int) [][]int {
	if m.isOrigin(number) {
		return [][]int{{number}}
	}
	var list [][]int
	for _, p := range m[number].parts {
		for _, path := range m.paths(p.Lot) {
			list = append(list, append(slices.Clone(path), number))
		}
	}
	return list
}

// numbers returns the numbers of the lots that are wanted.
func (m model) numbers(wanted func(number int) bool) []int {
	var list []int
	for number := range m {
		if wanted(number) {
			list = append(list, number)
		}
	}
	return list
}

func (m model) recall(number int) []int {
	return m.numbers(func(other int) bool { return m.contains(other, number) })
}

func (m model) gates(number int) []int {
	paths := m.paths(number)
	return m.numbers(func(gate int) bool {
		return !slices.ContainsFunc(paths, func(path []int) bool { return !slices.Contains(path, gate) })
	})
}

func (m model) suspects(bad, good []int) []int {
	return m.numbers(func(suspect int) bool {
		holds := func(other int) bool { return m.contains(other, suspect) }
		fails := func(other int) bool { return !holds(other) }
		return !slices.ContainsFunc(bad, fails) && !slices.ContainsFunc(good, holds)
	})
}

// state returns what a book tells of its lots.
func state(t *testing.T, b *lots.Book) model {
	t.Helper()
	m := model{}
	for number := range b.Lots() {
		var l lot
		var e, other api.Errno
		l.made, l.left, l.shipped, l.discarded, e = b.Mass(number)
		l.parts, other = b.Parts(number)
		if e != api.OK || other != api.OK {
			t.Fatalf("lot %d: Mass %d, Parts %d", number, e, other)
		}
		m = append(m, l)
	}
	return m
}

func (m model) equal(other model) bool {
	return slices.EqualFunc(m, other, func(one, two lot) bool {
		same := slices.Equal(one.parts, two.parts)
		one.parts, two.parts = nil, nil
		return same && reflect.DeepEqual(one, two)
	})
}

func mustBe(t *testing.T, b *lots.Book, want model) {
	t.Helper()
	if got := state(t, b); !got.equal(want) {
		t.Fatalf("the book is %v, want %v", got, want)
	}
}

// unchanged checks that calls leave a book as it was.
func unchanged(t *testing.T, b *lots.Book, calls func()) {
	t.Helper()
	before := state(t, b)
	calls()
	mustBe(t, b, before)
}

func receive(t *testing.T, b *lots.Book, masses ...int) {
	t.Helper()
	for _, mass := range masses {
		want := b.Lots()
		if n, e := b.Receive(mass); n != want || e != api.OK {
			t.Fatalf("Receive(%d) = %d, %d, want %d", mass, n, e, want)
		}
	}
}

func blend(t *testing.T, b *lots.Book, list ...api.Part) int {
	t.Helper()
	want := b.Lots()
	n, e := b.Blend(list)
	if n != want || e != api.OK {
		t.Fatalf("Blend(%v) = %d, %d, want %d", list, n, e, want)
	}
	return n
}

func ship(t *testing.T, b *lots.Book, lot, mass int) {
	t.Helper()
	if e := b.Ship(lot, mass); e != api.OK {
		t.Fatalf("Ship(%d, %d) = %d", lot, mass, e)
	}
}

func discard(t *testing.T, b *lots.Book, lot, mass int) {
	t.Helper()
	if e := b.Discard(lot, mass); e != api.OK {
		t.Fatalf("Discard(%d, %d) = %d", lot, mass, e)
	}
}

// mustRefuse checks that a blend is refused and has no effect.
func mustRefuse(t *testing.T, b *lots.Book, want api.Errno, list ...api.Part) {
	t.Helper()
	unchanged(t, b, func() {
		t.Helper()
		if n, e := b.Blend(list); n != 0 || e != want {
			t.Errorf("Blend(%v) = %d, %d, want %d", list, n, e, want)
		}
	})
}

// full returns a book that has as many lots as it can.
func full(t *testing.T) *lots.Book {
	t.Helper()
	b := lots.New()
	for b.Lots() < api.MaxLots {
		receive(t, b, 100)
	}
	return b
}

// example returns the book of the chapter's example.
func example(t *testing.T) *lots.Book {
	t.Helper()
	b := lots.New()
	receive(t, b, 100, 50)
	blend(t, b, part(0, 40), part(1, 10))
	blend(t, b, part(2, 20), part(0, 30))
	return b
}

// unusable returns the books that no function returned.
func unusable() map[string]*lots.Book {
	return map[string]*lots.Book{"nil": nil, "zero": {}}
}

// noLots returns numbers that are not those of the lots of a book.
func noLots(b *lots.Book) []int {
	n := b.Lots()
	return []int{n, n + 1, -1, -n, 255, 256, 1 << 32, -1 << 32, math.MaxInt, math.MinInt}
}

func noMasses() []int {
	return []int{0, -1, api.MaxMass + 1, 1 << 41, -api.MaxMass, math.MaxInt, math.MinInt, 1<<62 + 1}
}

// A twin is a book and what it should be.
type twin struct {
	*lots.Book
	model
}

// act performs a random act on both, with about that mass, and compares the results.
func (w *twin) act(t *testing.T, r *rand.Rand, mass int) {
	t.Helper()
	number := func() int { return r.Intn(w.Lots()+1) - r.Intn(50)/49 }
	some := func() int { return r.Intn(mass) + 1 - r.Intn(50)/49 }
	var n, wanted int
	var e, want api.Errno
	switch r.Intn(8) {
	case 0, 1:
		m := some() * 4
		n, e = w.Receive(m)
		wanted, want = w.receive(m)
	case 2:
		lot, m := number(), some()
		e, want = w.Ship(lot, m), w.ship(lot, m)
	case 3:
		lot, m := number(), some()
		e, want = w.Discard(lot, m), w.discard(lot, m)
	default:
		var list []api.Part
		for range 1 + r.Intn(4) {
			list = append(list, part(number(), some()))
		}
		n, e = w.Blend(list)
		wanted, want = w.blend(list)
	}
	if n != wanted || e != want {
		t.Fatalf("an act on %v: %d, %d, want %d, %d", w.model, n, e, wanted, want)
	}
}

// random returns a book that results from so many random acts.
func random(t *testing.T, r *rand.Rand, acts, mass int) twin {
	t.Helper()
	w := twin{lots.New(), nil}
	for range acts {
		w.act(t, r, mass)
	}
	mustBe(t, w.Book, w.model)
	return w
}
