package num_test

import (
	"math"
	"math/big"
	"math/rand"
	"strconv"
	"strings"
	"testing"

	"acrospire/api"
	"acrospire/num"
)

// P1.3

func ratSamples() []*big.Rat {
	most := greatest()
	list := []*big.Rat{new(big.Rat)}
	for _, s := range []string{"1", "2", "1/2", "1/3", "2/3", "3/2", "7/3", "4294967295/4294967296", "4294967297/2", "1/18446744073709551616", "9223372036854775807/9223372036854775806"} {
		f, _ := new(big.Rat).SetString(s)
		list = append(list, f)
	}
	list = append(list, new(big.Rat).SetInt(most), new(big.Rat).SetFrac(big.NewInt(1), most),
		new(big.Rat).SetFrac(most, more(most, -1)), new(big.Rat).SetFrac(more(most, -1), more(most, -2)), new(big.Rat).SetFrac(most, big.NewInt(2)))
	for _, f := range list[1:] {
		list = append(list, new(big.Rat).Neg(f))
	}
	return list
}

func TestNewRat(t *testing.T) {
	for _, c := range [][4]int{{1, 2, 1, 2}, {2, 4, 1, 2}, {-2, 4, -1, 2}, {2, -4, -1, 2}, {-2, -4, 1, 2}, {0, 5, 0, 1}, {0, -5, 0, 1}, {6, 3, 2, 1}, {6, -3, -2, 1}, {5, 1, 5, 1}, {5, -1, -5, 1}, {7, 7, 1, 1},
		{math.MaxInt, math.MaxInt, 1, 1}, {math.MinInt, 2, math.MinInt / 2, 1}, {-60, 84, -5, 7}} {
		f, e := num.NewRat(num.New(c[0]), num.New(c[1]))
		checkRat(t, "NewRat("+strconv.Itoa(c[0])+", "+strconv.Itoa(c[1])+")", f, e, big.NewRat(int64(c[2]), int64(c[3])), api.OK)
	}
	for _, n := range samples() {
		for _, m := range samples() {
			f, e := num.NewRat(integer(t, n), integer(t, m))
			if m.Sign() == 0 {
				checkRat(t, "NewRat by 0", f, e, nil, api.ErrZero)
			} else {
				checkRat(t, "NewRat("+short(n.String())+", "+short(m.String())+")", f, e, new(big.Rat).SetFrac(n, m), api.OK)
			}
		}
	}
}

func TestNewRatByZero(t *testing.T) {
	for _, n := range []num.Int{{}, num.New(1), num.New(-1), integer(t, greatest())} {
		for _, zero := range []num.Int{{}, num.New(0)} {
			f, e := num.NewRat(n, zero)
			checkRat(t, "NewRat by 0", f, e, nil, api.ErrZero)
		}
	}
}

func TestOf(t *testing.T) {
	for _, n := range []int{0, 1, -1, 1 << 32, math.MaxInt, math.MinInt} {
		checkRat(t, "Of("+strconv.Itoa(n)+")", num.Of(n), api.OK, new(big.Rat).SetInt64(int64(n)), api.OK)
	}
}

func TestParseRat(t *testing.T) {
	for _, f := range ratSamples() {
		got, e := num.ParseRat(f.RatString())
		checkRat(t, "ParseRat("+short(f.RatString())+")", got, e, f, api.OK)
	}
	for _, s := range []string{"0", "-1", "10", "1/2", "-1/2", "3/10", "-10/3", "1000000000/1000000001", "5/4294967296"} {
		if f, e := num.ParseRat(s); f.String() != s || e != api.OK {
			t.Errorf("ParseRat(%s) = %s, %d", s, f, e)
		}
	}
}

func TestParseRatRefusesOtherTexts(t *testing.T) {
	list := append(strange(), "0.5", "1/", "/2", "/", "1/0", "0/0", "1/1", "0/1", "-1/1", "1/-2", "-1/-2", "1/-1", "1/+2", "1/02", "01/2", "-0/2", "+1/2",
		"1/2/3", "1/2/", "/1/2", "1//2", "1 /2", "1/ 2", " 1/2", "1/2 ", "1/2x", "x/2", "1/x", "1\\2", "1/00", "1/-0", "1/\u0662", "--1/2")
	list = append(list, "2/4", "-2/4", "0/5", "0/2", "4/2", "6/3", "5/5", "9/6", "-18/12", "4294967296/2", "36893488147419103232/6", greatest().String()+"/3", greatest().String()+"/"+greatest().String())
	for _, s := range list {
		f, e := num.ParseRat(s)
		checkRat(t, "ParseRat("+short(strconv.Quote(s))+")", f, e, nil, api.ErrSyntax)
	}
}

// The form is checked first, then the range, and common divisors last.
func TestParseRatOrderOfErrors(t *testing.T) {
	most, beyond, long := greatest().String(), power(2, api.MaxBits).String(), "1"+strings.Repeat("0", 100000)
	for _, s := range []string{beyond, "-" + beyond, "1/" + beyond, beyond + "/3", "2/" + beyond, beyond + "/2", "-" + beyond + "/" + beyond, "0/" + beyond, most + "/" + beyond, beyond + "/" + most, long, long + "/10", "10/" + long} {
		f, e := num.ParseRat(s)
		checkRat(t, "ParseRat("+short(s)+")", f, e, nil, api.ErrRange)
	}
	for _, s := range []string{beyond + "/0", beyond + "/1", beyond + "/-3", beyond + "/", beyond + "/03", "-0/" + beyond, "x/" + beyond, "/" + beyond, "1/-" + beyond, "1/0" + beyond, long + "/x", beyond + "/3/3", beyond + "x/3"} {
		f, e := num.ParseRat(s)
		checkRat(t, "ParseRat("+short(s)+")", f, e, nil, api.ErrSyntax)
	}
	for _, s := range []string{most, "-" + most, "1/" + most, "-1/" + most, most + "/2", "2/" + most} {
		if f, e := num.ParseRat(s); f.String() != s || e != api.OK {
			t.Errorf("ParseRat(%s) = %s, %d", short(s), short(f.String()), e)
		}
	}
}

func checkFractions(t *testing.T, p, q *big.Rat) {
	t.Helper()
	f, g := ratio(t, p), ratio(t, q)
	what := short(p.RatString()) + " and " + short(q.RatString())
	if got := f.Cmp(g); got != p.Cmp(q) {
		t.Errorf("Cmp of %s = %d", what, got)
	}
	h, e := f.Add(g)
	checkRatFit(t, "sum of "+what, h, e, new(big.Rat).Add(p, q))
	h, e = f.Sub(g)
	checkRatFit(t, "difference of "+what, h, e, new(big.Rat).Sub(p, q))
	h, e = f.Mul(g)
	checkRatFit(t, "product of "+what, h, e, new(big.Rat).Mul(p, q))
	h, e = f.Quo(g)
	if q.Sign() == 0 {
		checkRat(t, "quotient of "+what, h, e, nil, api.ErrZero)
	} else {
		checkRatFit(t, "quotient of "+what, h, e, new(big.Rat).Quo(p, q))
	}
	if f.String() != p.RatString() || g.String() != q.RatString() {
		t.Errorf("arithmetic changed %s", what)
	}
}

func TestFractionsOfSamples(t *testing.T) {
	for _, p := range ratSamples() {
		for _, q := range ratSamples() {
			checkFractions(t, p, q)
		}
	}
}

func TestFractionsOfManySizes(t *testing.T) {
	r := rand.New(rand.NewSource(4))
	for range 3000 {
		checkFractions(t, randomRat(r, 40), randomRat(r, 40))
		checkFractions(t, randomRat(r, 5), randomRat(r, 5))
	}
	for range 500 {
		checkFractions(t, randomRat(r, 400), randomRat(r, 400))
	}
	for range 20 {
		checkFractions(t, randomRat(r, api.MaxBits), randomRat(r, api.MaxBits))
	}
}

func TestPartsOfFractions(t *testing.T) {
	for _, f := range ratSamples() {
		got := ratio(t, f)
		checkRat(t, "parts", got, api.OK, f, api.OK)
		checkRat(t, "Neg of "+short(f.RatString()), got.Neg(), api.OK, new(big.Rat).Neg(f), api.OK)
		if got.Sign() != f.Sign() || got.Neg().Sign() != -f.Sign() || got.Den().Sign() != 1 || got.Num().Sign() != f.Sign() {
			t.Errorf("Sign of %s = %d", short(f.RatString()), got.Sign())
		}
		floor := new(big.Int).Div(f.Num(), f.Denom()) // rounds down, as the denominator is positive
		checkInt(t, "Floor of "+short(f.RatString()), got.Floor(), api.OK, floor, api.OK)
	}
}

func TestFloor(t *testing.T) {
	for _, c := range [][3]int{{0, 1, 0}, {1, 2, 0}, {-1, 2, -1}, {3, 2, 1}, {-3, 2, -2}, {4, 2, 2}, {-4, 2, -2}, {-1, 1000000, -1}, {999999, 1000000, 0}, {-7, 7, -1}, {7, -2, -4}} {
		f, _ := num.NewRat(num.New(c[0]), num.New(c[1]))
		if got := f.Floor(); got.String() != strconv.Itoa(c[2]) {
			t.Errorf("Floor of %d/%d = %s", c[0], c[1], got)
		}
	}
}

func TestZeroRat(t *testing.T) {
	made, _ := num.NewRat(num.New(0), num.New(-3))
	half := fraction(t, "1/2")
	gone, _ := half.Sub(half)
	for _, f := range []num.Rat{{}, num.Of(0), made, gone, num.Rat{}.Neg()} {
		checkRat(t, "zero", f, api.OK, new(big.Rat), api.OK)
		if f.Sign() != 0 || f.Cmp(num.Rat{}) != 0 || f.Cmp(half) != -1 || half.Cmp(f) != 1 || f.Cmp(half.Neg()) != 1 || half.Neg().Cmp(f) != -1 {
			t.Errorf("zero: Sign() = %d, Cmp is wrong", f.Sign())
		}
		checkInt(t, "Floor of zero", f.Floor(), api.OK, new(big.Int), api.OK)
		h, e := f.Add(half)
		checkRat(t, "0 + 1/2", h, e, big.NewRat(1, 2), api.OK)
		h, e = f.Sub(half)
		checkRat(t, "0 - 1/2", h, e, big.NewRat(-1, 2), api.OK)
		h, e = half.Mul(f)
		checkRat(t, "1/2 * 0", h, e, new(big.Rat), api.OK)
		h, e = f.Quo(half.Neg())
		checkRat(t, "0 by -1/2", h, e, new(big.Rat), api.OK)
		for _, g := range []num.Rat{half, {}, num.Of(-3)} {
			h, e = g.Quo(f)
			checkRat(t, "by 0", h, e, nil, api.ErrZero)
		}
		if s, e := f.Decimal(2); s != "0.00" || e != api.OK {
			t.Errorf("Decimal of zero = %s, %d", s, e)
		}
	}
}

// What counts is the size of the result in lowest terms, not that of the numbers on
// the way to it.
func TestRangeOfFractions(t *testing.T) {
	most, one := greatest(), big.NewInt(1)
	whole := new(big.Rat).SetInt(most)
	small := new(big.Rat).SetFrac(one, most)
	third := new(big.Rat).SetFrac(most, big.NewInt(4))
	for _, c := range []struct {
		name      string
		operation func(f, g num.Rat) (num.Rat, api.Errno)
		f, g      *big.Rat
		want      *big.Rat
	}{
		{"greatest + 1", num.Rat.Add, whole, big.NewRat(1, 1), nil},
		{"greatest + 1/2", num.Rat.Add, whole, big.NewRat(1, 2), nil},
		{"greatest + -1", num.Rat.Add, whole, big.NewRat(-1, 1), new(big.Rat).SetInt(more(most, -1))},
		{"least - 1", num.Rat.Sub, new(big.Rat).Neg(whole), big.NewRat(1, 1), nil},
		{"1/greatest + 1/2", num.Rat.Add, small, big.NewRat(1, 2), nil},
		{"1/greatest - 1/greatest", num.Rat.Sub, small, small, new(big.Rat)},
		{"greatest/4 + greatest/4", num.Rat.Add, third, third, new(big.Rat).SetFrac(most, big.NewInt(2))},
		{"greatest * 2", num.Rat.Mul, whole, big.NewRat(2, 1), nil},
		{"1/greatest * 1/2", num.Rat.Mul, small, big.NewRat(1, 2), nil},
		{"greatest * 1/greatest", num.Rat.Mul, whole, small, big.NewRat(1, 1)},
		{"greatest/4 * 4", num.Rat.Mul, third, big.NewRat(4, 1), whole},
		{"greatest * 1/4", num.Rat.Mul, whole, big.NewRat(1, 4), third},
		{"greatest by 1/2", num.Rat.Quo, whole, big.NewRat(1, 2), nil},
		{"1/greatest by 2", num.Rat.Quo, small, big.NewRat(2, 1), nil},
		{"greatest by greatest", num.Rat.Quo, whole, whole, big.NewRat(1, 1)},
		{"1 by -greatest", num.Rat.Quo, big.NewRat(1, 1), new(big.Rat).Neg(whole), new(big.Rat).Neg(small)},
		{"greatest by -1/greatest", num.Rat.Quo, whole, new(big.Rat).Neg(small), nil},
	} {
		got, e := c.operation(ratio(t, c.f), ratio(t, c.g))
		if c.want == nil {
			checkRat(t, c.name, got, e, nil, api.ErrRange)
		} else {
			checkRat(t, c.name, got, e, c.want, api.OK)
		}
	}
}

func TestFractionsNeverChange(t *testing.T) {
	a, b := fraction(t, "18446744073709551615/4294967296"), fraction(t, "-7/3")
	sum, _ := a.Add(num.Rat{})
	values := []num.Rat{a, b, a.Neg(), sum, {}}
	var texts []string
	for _, v := range values {
		texts = append(texts, v.String())
	}
	for _, v := range values {
		for _, w := range values {
			v.Add(w)
			v.Sub(w)
			v.Mul(w)
			v.Quo(w)
			v.Cmp(w)
			v.Neg()
			v.Floor()
			v.Decimal(5)
			v.Num().Div(w.Den())
			num.NewRat(v.Num(), w.Den())
		}
	}
	for i, v := range values {
		if v.String() != texts[i] {
			t.Errorf("%s became %s", texts[i], v)
		}
	}
}
