package num_test

import (
	"math"
	"math/big"
	"math/rand"
	"strconv"
	"strings"
	"testing"

	"acrospire/api"
	"acrospire/num"
)

// P1.4

func TestParseDecimal(t *testing.T) {
	zeros := strings.Repeat("0", 63)
	for s, want := range map[string]string{
		"0": "0", "0.0": "0", "0.000": "0", "1": "1", "-1": "-1", "10": "10", "100.00": "100", "1.5": "3/2", "-1.5": "-3/2", "0.5": "1/2", "-0.5": "-1/2", "-0.50": "-1/2",
		"0.05": "1/20", "0.125": "1/8", "-0.001": "-1/1000", "12.345": "2469/200", "0.10": "1/10", "9.9": "99/10", "3.0": "3", "-3.0": "-3", "1.01": "101/100",
		"123456789012345678901234567890.5": "246913578024691357802469135781/2",
		"0." + zeros + "0":                 "0", "-0." + zeros + "1": "-1/1" + zeros + "0", "7." + zeros + "5": "14" + zeros + "1/2" + zeros} {
		f, e := num.ParseDecimal(s)
		exact, _ := new(big.Rat).SetString(s)
		checkRat(t, "ParseDecimal("+s+")", f, e, exact, api.OK)
		if !strings.Contains(s, zeros) && f.String() != want {
			t.Errorf("ParseDecimal(%s) = %s; want %s", s, f, want)
		}
	}
}

func TestParseDecimalRefusesOtherTexts(t *testing.T) {
	list := append(strange(), ".", "-.", ".5", "-.5", "1.", "-1.", "0.", "-0.", "-0.0", "-0.00", "-0."+strings.Repeat("0", 64), "01.5", "00.5", "-01.5", "1.5.", "1..5", "1.5.5", "1.-5", "1.+5", "+1.5", "1. 5", "1.5 ",
		" 1.5", "1.5x", "1.x", "x.5", "--1.5", "1.5e3", "1/2", "1,5", "0.5/1", "1.\u0665", "1.\xff", "1.5\x00")
	for _, start := range []string{"0.", "-0.", "1.", "-1.", "3."} {
		for _, s := range []string{strings.Repeat("0", 65), strings.Repeat("0", 64) + "1", strings.Repeat("5", 65), strings.Repeat("1", 100000)} {
			list = append(list, start+s)
		}
	}
	for _, s := range list {
		f, e := num.ParseDecimal(s)
		checkRat(t, "ParseDecimal("+short(strconv.Quote(s))+")", f, e, nil, api.ErrSyntax)
	}
}

func TestParseDecimalRange(t *testing.T) {
	most, beyond, half := greatest().String(), power(2, api.MaxBits).String(), power(2, api.MaxBits-1)
	zeros := strings.Repeat("0", 64)
	for _, s := range []string{most, "-" + most, most + ".0", "-" + most + "." + zeros, more(half, -1).String() + ".5", "-" + more(half, -1).String() + ".50"} {
		f, e := num.ParseDecimal(s)
		exact, _ := new(big.Rat).SetString(s)
		checkRat(t, "ParseDecimal("+short(s)+")", f, e, exact, api.OK)
	}
	for _, s := range []string{beyond, "-" + beyond, beyond + ".0", beyond + ".5", most + ".5", "-" + most + ".1", half.String() + ".5", "1" + strings.Repeat("0", 5000), "1" + strings.Repeat("0", 10000000) + ".5"} {
		f, e := num.ParseDecimal(s)
		checkRat(t, "ParseDecimal("+short(s)+")", f, e, nil, api.ErrRange)
	}
	for _, s := range []string{beyond + ".", beyond + "." + zeros + "0", beyond + ".x", "0" + beyond, "-0" + beyond + ".5", "+" + beyond, strings.Repeat("1", 100000) + ".-"} {
		f, e := num.ParseDecimal(s)
		checkRat(t, "ParseDecimal("+short(s)+")", f, e, nil, api.ErrSyntax)
	}
}

func TestDecimal(t *testing.T) {
	for _, c := range []struct {
		f      string
		places int
		want   string
	}{
		{"0", 0, "0"}, {"0", 1, "0.0"}, {"5", 0, "5"}, {"-5", 0, "-5"}, {"5", 3, "5.000"}, {"1/4", 2, "0.25"}, {"1/4", 4, "0.2500"}, {"-1/4", 2, "-0.25"},
		{"1/3", 3, "0.333"}, {"2/3", 3, "0.667"}, {"-2/3", 3, "-0.667"}, {"-1/3", 0, "0"}, {"-2/3", 0, "-1"}, {"1/7", 6, "0.142857"}, {"22/7", 2, "3.14"},
		{"1/200", 2, "0.00"}, {"-1/200", 2, "0.00"}, {"3/200", 2, "0.02"}, {"-3/200", 2, "-0.02"}, {"1/1000", 2, "0.00"}, {"1/1000", 3, "0.001"}, {"1/100000", 4, "0.0000"},
		{"999/1000", 2, "1.00"}, {"-999/1000", 2, "-1.00"}, {"999/1000", 3, "0.999"}, {"19999/2000", 2, "10.00"}, {"995/100", 1, "10.0"}, {"985/100", 1, "9.8"}, {"19/2", 0, "10"}, {"21/2", 0, "10"},
		{"1000000000", 1, "1000000000.0"}, {"4294967296/10", 1, "429496729.6"}, {"18446744073709551616/100", 2, "184467440737095516.16"},
	} {
		if s, e := fraction(t, c.f).Decimal(c.places); s != c.want || e != api.OK {
			t.Errorf("%s with %d places = %s, %d; want %s", c.f, c.places, s, e, c.want)
		}
	}
}

// Of two decimals that are equally near, the even one is the nearest.
func TestDecimalTies(t *testing.T) {
	for n, want := range []string{"0", "2", "2", "4", "4", "6", "6", "8", "8", "10", "10", "12"} {
		f := fraction(t, strconv.Itoa(2*n+1)+"/2")
		negative := "-" + want
		if want == "0" {
			negative = "0"
		}
		s, _ := f.Decimal(0)
		m, _ := f.Neg().Decimal(0)
		if s != want || m != negative {
			t.Errorf("%s = %s, negated %s; want %s, %s", f, s, m, want, negative)
		}
	}
	tiny := fraction(t, "1/1"+strings.Repeat("0", 80))
	for n, want := range map[string][2]string{"1/2": {"0", "1"}, "3/2": {"1", "2"}, "-1/2": {"-1", "0"}, "5/2": {"2", "3"}, "-5/2": {"-3", "-2"}} {
		less, _ := fraction(t, n).Sub(tiny)
		more, _ := fraction(t, n).Add(tiny)
		s, _ := less.Decimal(0)
		m, _ := more.Decimal(0)
		if s != want[0] || m != want[1] {
			t.Errorf("just below %s: %s, just above: %s; want %s", n, s, m, want)
		}
	}
}

// nearest is Decimal, computed in another way: with the truncated value and the rest.
func nearest(f *big.Rat, places int) string {
	n := new(big.Int).Mul(new(big.Int).Abs(f.Num()), power(10, int64(places)))
	q, r := n.QuoRem(n, f.Denom(), new(big.Int))
	switch r.Lsh(r, 1).Cmp(f.Denom()) {
	case 1:
		q.Add(q, big.NewInt(1))
	case 0:
		q.Add(q, big.NewInt(int64(q.Bit(0))))
	}
	if f.Sign() < 0 {
		q.Neg(q)
	}
	return new(big.Rat).SetFrac(q, power(10, int64(places))).FloatString(places)
}

func TestDecimalOfManyFractions(t *testing.T) {
	list := ratSamples()
	r := rand.New(rand.NewSource(5))
	for range 300 {
		list = append(list, randomRat(r, 20), randomRat(r, 300), big.NewRat(r.Int63n(4001)-2000, 2<<r.Intn(10)))
	}
	for _, f := range list {
		for _, places := range []int{0, 1, 2, 3, 9, 10, 63, 64} {
			if s, e := ratio(t, f).Decimal(places); s != nearest(f, places) || e != api.OK {
				t.Errorf("%s with %d places = %s, %d", short(f.RatString()), places, short(s), e)
			}
		}
	}
}

// The decimal of a fraction that fits may denote one that does not.
func TestDecimalOfTheGreatest(t *testing.T) {
	most := greatest().String()
	for _, sign := range []string{"", "-"} {
		s, e := fraction(t, sign+most).Decimal(api.MaxPlaces)
		if s != sign+most+"."+strings.Repeat("0", 64) || e != api.OK {
			t.Errorf("Decimal of the greatest = %s, %d", short(s), e)
		}
	}
	s, e := fraction(t, most+"/2").Decimal(1)
	if f, e := num.ParseDecimal(s); f.String() != most+"/2" || e != api.OK {
		t.Errorf("the half of the greatest is read as %s, %d", short(f.String()), e)
	}
	if want := power(2, api.MaxBits-1).String() + ".0"; e != api.OK || s == want {
		t.Errorf("the half of the greatest = %s, %d", short(s), e)
	}
	if s, e = fraction(t, most+"/2").Decimal(0); s != power(2, api.MaxBits-1).String() || e != api.OK {
		t.Errorf("the half of the greatest without places = %s, %d", short(s), e)
	}
}

func TestDecimalPlaces(t *testing.T) {
	for _, f := range []num.Rat{{}, num.Of(-3), fraction(t, "1/3")} {
		for _, places := range []int{-1, 65, -64, 1000, math.MinInt, math.MaxInt} {
			if s, e := f.Decimal(places); s != "" || e != api.ErrArg {
				t.Errorf("%s with %d places = %q, %d", f, places, s, e)
			}
		}
		for places := range api.MaxPlaces + 1 {
			s, e := f.Decimal(places)
			_, after, pointed := strings.Cut(s, ".")
			if len(after) != places || pointed != (places > 0) || e != api.OK {
				t.Errorf("%s with %d places = %s, %d", f, places, s, e)
			}
		}
	}
}
