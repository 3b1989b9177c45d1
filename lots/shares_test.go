package lots_test

import (
	"math/big"
	"math/rand"
	"strconv"
	"strings"
	"testing"

	"acrospire/api"
	"acrospire/lots"
)

// text writes shares like 0:4/5 1:1/5.
func text(list []lots.Share) string {
	var words []string
	for _, s := range list {
		words = append(words, strconv.Itoa(s.Lot)+":"+s.Part.String())
	}
	return strings.Join(words, " ")
}

func mustShare(t *testing.T, b *lots.Book, lot int, want string) {
	t.Helper()
	if list, e := b.Shares(lot); text(list) != want || e != api.OK {
		t.Errorf("Shares(%d) = %s, %d, want %s", lot, text(list), e, want)
	}
}

func mustExpose(t *testing.T, b *lots.Book, origin int, left, shipped string) {
	t.Helper()
	if l, s, e := b.Exposure(origin); l.String() != left || s.String() != shipped || e != api.OK {
		t.Errorf("Exposure(%d) = %s, %s, %d, want %s, %s", origin, l, s, e, left, shipped)
	}
}

// portion returns the share of a mass.
func portion(share *big.Rat, mass int) *big.Rat {
	return new(big.Rat).Mul(share, new(big.Rat).SetInt64(int64(mass)))
}

// exposure returns how much of an origin is left and how much was shipped.
func (m model) exposure(origin int) (string, string) {
	left, shipped := new(big.Rat), new(big.Rat)
	for number, share := range m.shares(origin) {
		left.Add(left, portion(share, m[number].left))
		shipped.Add(shipped, portion(share, m[number].shipped))
	}
	return left.RatString(), shipped.RatString()
}

// mustAgree compares the shares in all lots and the exposures of all origins.
func mustAgree(t *testing.T, w twin) {
	t.Helper()
	words := make([][]string, len(w.model))
	for origin := range w.model {
		if !w.isOrigin(origin) {
			continue
		}
		for number, share := range w.shares(origin) {
			if share.Sign() != 0 {
				words[number] = append(words[number], strconv.Itoa(origin)+":"+share.RatString())
			}
		}
		left, shipped := w.exposure(origin)
		mustExpose(t, w.Book, origin, left, shipped)
	}
	for number, want := range words {
		mustShare(t, w.Book, number, strings.Join(want, " "))
	}
}

func TestShares(t *testing.T) {
	b := example(t)
	mustShare(t, b, 0, "0:1")
	mustShare(t, b, 1, "1:1")
	mustShare(t, b, 2, "0:4/5 1:1/5")
	mustShare(t, b, 3, "0:23/25 1:2/25")
	// Shares are those of the mass with which a lot was made, whatever is left.
	ship(t, b, 3, 49)
	discard(t, b, 0, 30)
	mustShare(t, b, 0, "0:1")
	mustShare(t, b, 3, "0:23/25 1:2/25")
	receive(t, b, 7)
	blend(t, b, part(4, 1), part(1, 2), part(3, 1), part(4, 4))
	mustShare(t, b, 5, "0:23/200 1:13/50 4:5/8")
}

// Origins come in ascending order, whatever the order of the parts.
func TestOrderOfShares(t *testing.T) {
	b := lots.New()
	for range 12 {
		receive(t, b, 12)
	}
	blend(t, b, part(11, 1), part(10, 1), part(3, 1))
	blend(t, b, part(9, 1), part(2, 1), part(12, 1), part(0, 1))
	for range 20 {
		mustShare(t, b, 13, "0:1/4 2:1/4 3:1/12 9:1/4 10:1/12 11:1/12")
	}
}

func TestSharesOfOneOrigin(t *testing.T) {
	b := lots.New()
	receive(t, b, 30)
	blend(t, b, part(0, 7), part(0, 10))
	blend(t, b, part(1, 16), part(0, 13))
	mustShare(t, b, 1, "0:1")
	mustShare(t, b, 2, "0:1")
	mustExpose(t, b, 0, "30", "0")
}

func TestExposure(t *testing.T) {
	b := example(t)
	mustExpose(t, b, 0, "100", "0")
	mustExpose(t, b, 1, "50", "0")
	ship(t, b, 3, 10)
	mustExpose(t, b, 0, "454/5", "46/5")
	mustExpose(t, b, 1, "246/5", "4/5")
	ship(t, b, 2, 1)
	discard(t, b, 2, 29)
	mustExpose(t, b, 0, "334/5", "10")
	mustExpose(t, b, 1, "216/5", "1")
	ship(t, b, 1, 40)
	discard(t, b, 0, 30)
	discard(t, b, 3, 40)
	mustExpose(t, b, 0, "0", "10")
	mustExpose(t, b, 1, "0", "41")
}

func TestSharesAndExposureRefuse(t *testing.T) {
	for _, b := range []*lots.Book{lots.New(), example(t)} {
		for _, number := range noLots(b) {
			if list, e := b.Shares(number); len(list) != 0 || e != api.ErrNone {
				t.Errorf("Shares(%d) = %v, %d", number, list, e)
			}
			if left, shipped, e := b.Exposure(number); left.Sign() != 0 || shipped.Sign() != 0 || e != api.ErrNone {
				t.Errorf("Exposure(%d) = %s, %s, %d", number, left, shipped, e)
			}
		}
	}
	b := example(t)
	ship(t, b, 3, 10)
	for number := 2; number < 4; number++ {
		if left, shipped, e := b.Exposure(number); left.Sign() != 0 || shipped.Sign() != 0 || e != api.ErrArg {
			t.Errorf("Exposure(%d) = %s, %s, %d", number, left, shipped, e)
		}
	}
	for name, b := range unusable() {
		for _, number := range []int{0, -1, 256} {
			if list, e := b.Shares(number); len(list) != 0 || e != api.ErrUnusable {
				t.Errorf("%s: Shares = %v, %d", name, list, e)
			}
			if left, shipped, e := b.Exposure(number); left.Sign() != 0 || shipped.Sign() != 0 || e != api.ErrUnusable {
				t.Errorf("%s: Exposure = %s, %s, %d", name, left, shipped, e)
			}
		}
	}
}

func TestRandomShares(t *testing.T) {
	r := rand.New(rand.NewSource(92))
	for range 150 {
		mustAgree(t, random(t, r, 60, 1+r.Intn(30)))
		mustAgree(t, random(t, r, 60, api.MaxMass/4))
	}
	mustAgree(t, random(t, r, 300, 1000))
}

// chain returns a book that is as deep as a book can be: each lot has a part of the one
// before it, and their masses have few common divisors.
func chain(t *testing.T) twin {
	t.Helper()
	w := twin{lots.New(), nil}
	for n := range 3 {
		receive(t, w.Book, api.MaxMass-n)
		w.receive(api.MaxMass - n)
	}
	for n := 3; n < api.MaxLots; n++ {
		list := parts(part(n-1, w.model[n-1].left-5*n), part(n%2, 3*n+1))
		blend(t, w.Book, list...)
		w.blend(list)
	}
	mustBe(t, w.Book, w.model)
	return w
}

// The denominators of deep lots have thousands of digits, which still fit.
func TestSharesOfDeepBook(t *testing.T) {
	w := chain(t)
	ship(t, w.Book, 255, 1000)
	w.ship(255, 1000)
	mustAgree(t, w)
	list, _ := w.Shares(255)
	if n := list[0].Part.Den().BitLen(); n < 9000 {
		t.Errorf("the denominator has only %d digits", n)
	}
}

// wide returns a full book in which each blended lot has as many parts as it can.
func wide(t *testing.T) twin {
	t.Helper()
	w := twin{lots.New(), nil}
	for range api.MaxParts {
		receive(t, w.Book, api.MaxMass)
		w.receive(api.MaxMass)
	}
	for w.Lots() < api.MaxLots {
		var list []api.Part
		for number := w.Lots() - api.MaxParts; number < w.Lots(); number++ {
			list = append(list, part(number, w.model[number].left/api.MaxParts))
		}
		blend(t, w.Book, list...)
		w.blend(list)
	}
	mustBe(t, w.Book, w.model)
	return w
}

func TestSharesOfWideBook(t *testing.T) {
	w := wide(t)
	shares := w.shares(3)
	for _, number := range []int{3, 15, 16, 100, 255} {
		list, e := w.Shares(number)
		if e != api.OK || number >= 16 && (len(list) != 16 || list[3].Part.String() != shares[number].RatString()) {
			t.Errorf("Shares(%d) = %v, %d", number, list, e)
		}
	}
	left, shipped := w.exposure(3)
	mustExpose(t, w.Book, 3, left, shipped)
}
