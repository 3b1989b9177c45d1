package num_test

import (
	"math"
	"math/big"
	"math/rand"
	"strings"
	"testing"

	"acrospire/api"
	"acrospire/num"
)

// The tests compare with math/big, an independent implementation.

func power(base, exponent int64) *big.Int {
	return new(big.Int).Exp(big.NewInt(base), big.NewInt(exponent), nil)
}

func more(n *big.Int, by int64) *big.Int {
	return new(big.Int).Add(n, big.NewInt(by))
}

func negated(n *big.Int) *big.Int {
	return new(big.Int).Neg(n)
}

// greatest is the greatest integer that fits.
func greatest() *big.Int {
	return more(power(2, api.MaxBits), -1)
}

func fits(n *big.Int) bool {
	return n.BitLen() <= api.MaxBits
}

func ratFits(f *big.Rat) bool {
	return fits(f.Num()) && fits(f.Denom())
}

func integer(t *testing.T, n *big.Int) num.Int {
	t.Helper()
	return parsed(t, n.String())
}

func parsed(t *testing.T, s string) num.Int {
	t.Helper()
	a, e := num.Parse(s)
	if e != api.OK {
		t.Fatalf("Parse(%s) = %d", short(s), e)
	}
	return a
}

// fraction makes a fraction from a numeral, or from two with a slash, in any terms.
func fraction(t *testing.T, s string) num.Rat {
	t.Helper()
	top, bottom, divided := strings.Cut(s, "/")
	if !divided {
		bottom = "1"
	}
	f, e := num.NewRat(parsed(t, top), parsed(t, bottom))
	if e != api.OK {
		t.Fatalf("NewRat(%s) = %d", short(s), e)
	}
	return f
}

func ratio(t *testing.T, f *big.Rat) num.Rat {
	t.Helper()
	return fraction(t, f.String())
}

func short(s string) string {
	if len(s) > 60 {
		return s[:30] + ".." + s[len(s)-30:]
	}
	return s
}

// checkInt compares a result with the exact one, which is nil if an error is expected.
func checkInt(t *testing.T, what string, got num.Int, e api.Errno, want *big.Int, wantError api.Errno) {
	t.Helper()
	if want == nil {
		want = new(big.Int)
	}
	if got.String() != want.String() || e != wantError {
		t.Errorf("%s = %s, %d; want %s, %d", what, short(got.String()), e, short(want.String()), wantError)
	}
}

// checkFit is checkInt for an operation that fails if the result does not fit.
func checkFit(t *testing.T, what string, got num.Int, e api.Errno, want *big.Int) {
	t.Helper()
	if fits(want) {
		checkInt(t, what, got, e, want, api.OK)
	} else {
		checkInt(t, what, got, e, nil, api.ErrRange)
	}
}

// checkRat compares a fraction, also its parts, with the exact one in lowest terms.
func checkRat(t *testing.T, what string, got num.Rat, e api.Errno, want *big.Rat, wantError api.Errno) {
	t.Helper()
	if want == nil {
		want = new(big.Rat)
	}
	if got.Num().String() != want.Num().String() || got.Den().String() != want.Denom().String() || e != wantError {
		t.Errorf("%s = %s, %d; want %s, %d", what, short(got.String()), e, short(want.RatString()), wantError)
	}
	if got.String() != want.RatString() {
		t.Errorf("%s: String() = %s; want %s", what, short(got.String()), short(want.RatString()))
	}
}

func checkRatFit(t *testing.T, what string, got num.Rat, e api.Errno, want *big.Rat) {
	t.Helper()
	if ratFits(want) {
		checkRat(t, what, got, e, want, api.OK)
	} else {
		checkRat(t, what, got, e, nil, api.ErrRange)
	}
}

// samples are integers at the borders of digits, of int and of the limit.
func samples() []*big.Int {
	list := []*big.Int{new(big.Int)}
	for _, n := range []int64{1, 2, 3, 7, 9, 10, 60, 255, 999999999, 1000000000, 1000000001, math.MaxInt64} {
		list = append(list, big.NewInt(n))
	}
	for _, bits := range []int64{31, 32, 63, 64, 96, 128} {
		p := power(2, bits)
		list = append(list, more(p, -1), p, more(p, 1))
	}
	list = append(list, power(10, 27), power(3, 100), power(2, api.MaxBits-1), more(greatest(), -1), greatest())
	for _, n := range list[1:] {
		list = append(list, negated(n))
	}
	return list
}

// random returns an integer of at most so many bits. It often has long runs of
// equal bits, where carries go far and estimates of quotients are worst.
func random(r *rand.Rand, bits int) *big.Int {
	n := new(big.Int)
	for length := r.Intn(bits + 1); n.BitLen() < length; {
		run := uint(r.Intn(50) + 1)
		n.Lsh(n, run)
		switch r.Intn(3) {
		case 0:
			n.Or(n, more(power(2, int64(run)), -1))
		case 1:
			n.Or(n, big.NewInt(r.Int63n(1<<run)))
		default:
			n.Or(n, big.NewInt(1))
		}
	}
	n.Rsh(n, uint(max(0, n.BitLen()-bits)))
	if r.Intn(2) == 0 {
		n.Neg(n)
	}
	return n
}

func randomRat(r *rand.Rand, bits int) *big.Rat {
	den := random(r, bits)
	if den.Sign() == 0 {
		den.SetInt64(1)
	}
	return new(big.Rat).SetFrac(random(r, bits), den)
}
