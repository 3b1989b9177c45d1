package num_test

import (
	"math"
	"math/big"
	"math/rand"
	"strconv"
	"strings"
	"testing"

	"acrospire/api"
	"acrospire/num"
)

// P1.1

func TestNew(t *testing.T) {
	list := []int{0, 1, -1, 9, 10, -10, 999999999, 1000000000, -1000000001}
	for _, border := range []int{1 << 31, 1 << 32, 1 << 62, math.MaxInt} {
		list = append(list, border-1, border, -border, -border+1)
	}
	list = append(list, 1<<32+1, -1<<32-1, math.MinInt, math.MinInt+1)
	for _, n := range list {
		if s := num.New(n).String(); s != strconv.Itoa(n) {
			t.Errorf("New(%d) = %s", n, s)
		}
		if k, ok := num.New(n).Int(); k != n || !ok {
			t.Errorf("New(%d).Int() = %d, %t", n, k, ok)
		}
	}
}

func TestParseReadsNumerals(t *testing.T) {
	for _, n := range samples() {
		s := n.String()
		a, e := num.Parse(s)
		checkInt(t, "Parse("+short(s)+")", a, e, n, api.OK)
	}
	for _, s := range []string{"10", "100000000", "1000000000", "1000000000000000000", "-20000000000000000003", "123456789012345678901234567890"} {
		if a, e := num.Parse(s); a.String() != s || e != api.OK {
			t.Errorf("Parse(%s) = %s, %d", s, a, e)
		}
	}
}

// strange are texts that are neither numerals nor decimals.
func strange() []string {
	return []string{"", "-", "+", "--1", "-+1", "+1", "+0", "-0", "00", "01", "-01", "-00", "007", " 1", "1 ", "1\n", "1\x00",
		"a", "x1", "1x", "0x10", "1e3", "1_000", "1,0", "1-", "1-1", "0-", ":", "1:", "1/", "/", "1//2", "\u0663", "\uff11", "1\u00b2", "\xff", "-\xff1", "\u22121",
		strings.Repeat("9", 20000) + "x", "x" + strings.Repeat("9", 20000), "0" + strings.Repeat("9", 20000), strings.Repeat("0", 20000), "-0" + greatest().String()}
}

func TestParseRefusesOtherTexts(t *testing.T) {
	for _, s := range append(strange(), "1.0", "1.", ".1", "1/2", "0/1", "-1/2") {
		a, e := num.Parse(s)
		checkInt(t, "Parse("+short(strconv.Quote(s))+")", a, e, nil, api.ErrSyntax)
	}
}

func TestParseRange(t *testing.T) {
	limit := power(2, api.MaxBits)
	for _, n := range []*big.Int{more(limit, -1), more(limit, -2), power(2, api.MaxBits-1), power(10, 4932)} {
		for _, m := range []*big.Int{n, negated(n)} {
			a, e := num.Parse(m.String())
			checkInt(t, "Parse("+short(m.String())+")", a, e, m, api.OK)
		}
	}
	for _, n := range []*big.Int{limit, more(limit, 1), power(2, api.MaxBits+1), power(10, 4933), power(10, 4934), power(2, 40000)} {
		for _, m := range []*big.Int{n, negated(n)} {
			a, e := num.Parse(m.String())
			checkInt(t, "Parse("+short(m.String())+")", a, e, nil, api.ErrRange)
		}
	}
	a, e := num.Parse("1" + strings.Repeat("0", 10000000))
	checkInt(t, "Parse of 10 million zeros", a, e, nil, api.ErrRange)
}

func TestIntOutsideOfInt(t *testing.T) {
	most, least := big.NewInt(math.MaxInt), big.NewInt(math.MinInt)
	list := []*big.Int{more(most, 1), more(least, -1), power(2, 64), more(power(2, 64), -1), more(power(2, 64), 5), power(2, 65), more(power(2, 96), 1), greatest()}
	for _, n := range list {
		for _, m := range []*big.Int{n, negated(n)} {
			if m.Cmp(least) == 0 { // the negated MaxInt+1
				continue
			}
			if k, ok := integer(t, m).Int(); k != 0 || ok {
				t.Errorf("%s: Int() = %d, %t", short(m.String()), k, ok)
			}
		}
	}
	for _, n := range []*big.Int{most, least, more(most, -1), more(least, 1), new(big.Int), big.NewInt(-1), big.NewInt(1 << 40)} {
		if k, ok := integer(t, n).Int(); int64(k) != n.Int64() || !ok {
			t.Errorf("%s: Int() = %d, %t", n, k, ok)
		}
	}
}

func TestSignAndBitLen(t *testing.T) {
	for _, n := range samples() {
		a := integer(t, n)
		if a.Sign() != n.Sign() || a.BitLen() != n.BitLen() {
			t.Errorf("%s: Sign() = %d, BitLen() = %d", short(n.String()), a.Sign(), a.BitLen())
		}
	}
	if n := num.New(0).BitLen(); n != 0 {
		t.Errorf("0 has %d binary digits", n)
	}
	if n := integer(t, negated(greatest())).BitLen(); n != api.MaxBits {
		t.Errorf("the least integer has %d binary digits", n)
	}
}

func TestCmpAndNeg(t *testing.T) {
	for _, n := range samples() {
		a := integer(t, n)
		checkInt(t, "Neg of "+short(n.String()), a.Neg(), api.OK, negated(n), api.OK)
		checkInt(t, "Neg of Neg of "+short(n.String()), a.Neg().Neg(), api.OK, n, api.OK)
		for _, m := range samples() {
			if got := a.Cmp(integer(t, m)); got != n.Cmp(m) {
				t.Errorf("%s Cmp %s = %d", short(n.String()), short(m.String()), got)
			}
		}
	}
}

func TestZeroInt(t *testing.T) {
	var zero num.Int
	for _, a := range []num.Int{zero, num.New(0), zero.Neg(), num.New(0).Neg()} {
		n, ok := a.Int()
		if a.String() != "0" || n != 0 || !ok || a.Sign() != 0 || a.BitLen() != 0 {
			t.Errorf("zero: %s, %d, %t, %d, %d", a, n, ok, a.Sign(), a.BitLen())
		}
		if a.Cmp(zero) != 0 || zero.Cmp(a) != 0 || a.Cmp(num.New(1)) != -1 || a.Cmp(num.New(-1)) != 1 || num.New(1).Cmp(a) != 1 || num.New(-1).Cmp(a) != -1 {
			t.Errorf("a zero is compared wrongly")
		}
		s, e := num.New(-5).Add(a)
		checkInt(t, "-5 + 0", s, e, big.NewInt(-5), api.OK)
		s, e = a.Sub(num.New(-5))
		checkInt(t, "0 - -5", s, e, big.NewInt(5), api.OK)
		s, e = a.Mul(num.New(-5))
		checkInt(t, "0 * -5", s, e, new(big.Int), api.OK)
		q, r, e := a.Div(num.New(-5))
		checkInt(t, "0 / -5", q, e, new(big.Int), api.OK)
		checkInt(t, "0 mod -5", r, e, new(big.Int), api.OK)
		if a.Mul(num.New(-5)); s.Neg().String() != "0" {
			t.Errorf("0 has a sign")
		}
	}
}

// P1.2

func checkArithmetic(t *testing.T, n, m *big.Int) {
	t.Helper()
	a, b := integer(t, n), integer(t, m)
	what := short(n.String()) + " and " + short(m.String())
	c, e := a.Add(b)
	checkFit(t, "sum of "+what, c, e, new(big.Int).Add(n, m))
	c, e = a.Sub(b)
	checkFit(t, "difference of "+what, c, e, new(big.Int).Sub(n, m))
	c, e = a.Mul(b)
	checkFit(t, "product of "+what, c, e, new(big.Int).Mul(n, m))
	checkInt(t, "Gcd of "+what, num.Gcd(a, b), api.OK, new(big.Int).GCD(nil, nil, new(big.Int).Abs(n), new(big.Int).Abs(m)), api.OK)
	q, r, e := a.Div(b)
	if m.Sign() == 0 {
		checkInt(t, "quotient of "+what, q, e, nil, api.ErrZero)
		checkInt(t, "remainder of "+what, r, e, nil, api.ErrZero)
	} else {
		wantQ, wantR := new(big.Int).DivMod(n, m, new(big.Int))
		checkInt(t, "quotient of "+what, q, e, wantQ, api.OK)
		checkInt(t, "remainder of "+what, r, e, wantR, api.OK)
	}
	if a.String() != n.String() || b.String() != m.String() {
		t.Errorf("arithmetic changed %s", what)
	}
}

func TestArithmeticOfSamples(t *testing.T) {
	for _, n := range samples() {
		for _, m := range samples() {
			checkArithmetic(t, n, m)
		}
	}
}

func TestArithmeticOfManySizes(t *testing.T) {
	r := rand.New(rand.NewSource(1))
	for range 20000 {
		checkArithmetic(t, random(r, 200), random(r, 200))
	}
	for range 2000 {
		checkArithmetic(t, random(r, 1000), random(r, 500))
	}
	for range 100 {
		checkArithmetic(t, random(r, api.MaxBits), random(r, api.MaxBits))
	}
}

func TestRangeOfArithmetic(t *testing.T) {
	most := integer(t, greatest())
	one := num.New(1)
	c, e := most.Add(one)
	checkInt(t, "greatest + 1", c, e, nil, api.ErrRange)
	c, e = most.Neg().Add(one.Neg())
	checkInt(t, "least + -1", c, e, nil, api.ErrRange)
	c, e = most.Neg().Sub(one)
	checkInt(t, "least - 1", c, e, nil, api.ErrRange)
	c, e = most.Sub(one.Neg())
	checkInt(t, "greatest - -1", c, e, nil, api.ErrRange)
	c, e = most.Sub(most)
	checkInt(t, "greatest - greatest", c, e, new(big.Int), api.OK)
	c, e = most.Add(num.Int{})
	checkInt(t, "greatest + 0", c, e, greatest(), api.OK)
	c, e = most.Mul(one.Neg())
	checkInt(t, "greatest * -1", c, e, negated(greatest()), api.OK)
	c, e = most.Mul(num.New(2))
	checkInt(t, "greatest * 2", c, e, nil, api.ErrRange)
	half := integer(t, power(2, api.MaxBits/2))
	c, e = half.Mul(half)
	checkInt(t, "2^8192 * 2^8192", c, e, nil, api.ErrRange)
	below := more(power(2, api.MaxBits/2), -1)
	c, e = half.Mul(integer(t, below))
	checkInt(t, "2^8192 * (2^8192 - 1)", c, e, new(big.Int).Mul(power(2, api.MaxBits/2), below), api.OK)
}

func TestDivRoundsTowardsTheSignOfTheDivisor(t *testing.T) {
	for _, c := range [][4]int{{7, 2, 3, 1}, {-7, 2, -4, 1}, {7, -2, -3, 1}, {-7, -2, 4, 1}, {6, -2, -3, 0}, {-6, 2, -3, 0}, {-6, -2, 3, 0},
		{1, 5, 0, 1}, {-1, 5, -1, 4}, {1, -5, 0, 1}, {-1, -5, 1, 4}, {-5, 5, -1, 0}, {0, -5, 0, 0}, {-9, 1, -9, 0}, {-9, -1, 9, 0}} {
		q, r, e := num.New(c[0]).Div(num.New(c[1]))
		if q.String() != strconv.Itoa(c[2]) || r.String() != strconv.Itoa(c[3]) || e != api.OK {
			t.Errorf("%d by %d = %s, %s, %d", c[0], c[1], q, r, e)
		}
	}
}

func TestDivByZero(t *testing.T) {
	for _, zero := range []num.Int{{}, num.New(0)} {
		for _, a := range []num.Int{{}, num.New(1), num.New(-1), integer(t, greatest())} {
			q, r, e := a.Div(zero)
			checkInt(t, "quotient by 0", q, e, nil, api.ErrZero)
			checkInt(t, "remainder by 0", r, e, nil, api.ErrZero)
		}
	}
}

// Dividends just below a multiple of the divisor have quotients that are easily
// estimated too high.
func TestDivNearMultiples(t *testing.T) {
	r := rand.New(rand.NewSource(2))
	for range 5000 {
		by := random(r, 250)
		if by.Sign() == 0 {
			continue
		}
		multiple := new(big.Int).Mul(by, random(r, 250))
		for _, n := range []*big.Int{more(multiple, -1), multiple, more(multiple, 1)} {
			q, rest, e := integer(t, n).Div(integer(t, by))
			wantQ, wantRest := new(big.Int).DivMod(n, by, new(big.Int))
			checkInt(t, n.String()+" by "+by.String(), q, e, wantQ, api.OK)
			checkInt(t, n.String()+" mod "+by.String(), rest, e, wantRest, api.OK)
		}
	}
}

func TestGcd(t *testing.T) {
	for _, c := range [][3]int{{0, 0, 0}, {0, 5, 5}, {5, 0, 5}, {0, -5, 5}, {-5, 0, 5}, {-12, 18, 6}, {12, -18, 6}, {-12, -18, 6}, {1, -1, 1}, {7, 13, 1}, {6, 6, 6}, {math.MinInt, math.MinInt + 1, 1}} {
		if g := num.Gcd(num.New(c[0]), num.New(c[1])); g.String() != strconv.Itoa(c[2]) {
			t.Errorf("Gcd(%d, %d) = %s", c[0], c[1], g)
		}
	}
	if g := num.Gcd(num.Int{}, num.Int{}); g.String() != "0" || g.Sign() != 0 {
		t.Errorf("Gcd of zero values = %s", g)
	}
	least := integer(t, negated(greatest()))
	checkInt(t, "Gcd(0, least)", num.Gcd(num.Int{}, least), api.OK, greatest(), api.OK)
	checkInt(t, "Gcd(least, least)", num.Gcd(least, least), api.OK, greatest(), api.OK)
	if g := num.Gcd(num.New(math.MinInt), num.Int{}); g.String() != "9223372036854775808" {
		t.Errorf("Gcd(MinInt, 0) = %s", g)
	}
}

// Neighboring Fibonacci numbers take the most steps.
func TestGcdOfFibonacciNumbers(t *testing.T) {
	a, b := big.NewInt(1), big.NewInt(1)
	for b.BitLen() < api.MaxBits-1 {
		a, b = b, new(big.Int).Add(a, b)
		if b.BitLen()%500 == 0 {
			g := num.Gcd(integer(t, a), integer(t, negated(b)))
			checkInt(t, "Gcd of Fibonacci numbers", g, api.OK, big.NewInt(1), api.OK)
		}
	}
}

func TestGcdOfCommonMultiples(t *testing.T) {
	r := rand.New(rand.NewSource(3))
	for range 3000 {
		common, n, m := random(r, 300), random(r, 300), random(r, 300)
		n.Mul(n, common)
		m.Mul(m, common)
		want := new(big.Int).GCD(nil, nil, new(big.Int).Abs(n), new(big.Int).Abs(m))
		checkInt(t, "Gcd("+n.String()+", "+m.String()+")", num.Gcd(integer(t, n), integer(t, m)), api.OK, want, api.OK)
	}
}

// A value never changes, whatever is computed from it, or from what it was computed from.
func TestIntegersNeverChange(t *testing.T) {
	a, b := integer(t, more(power(2, 96), -1)), integer(t, power(2, 64))
	product, _ := a.Mul(b)
	quotient, rest, _ := a.Div(b)
	sum, _ := a.Add(num.Int{})
	values := []num.Int{a, b, a.Neg(), product, quotient, rest, sum, num.Gcd(a, num.Int{}), num.Gcd(a, b)}
	var texts []string
	for _, v := range values {
		texts = append(texts, v.String())
	}
	for _, v := range values {
		for _, w := range values {
			v.Add(w)
			v.Sub(w)
			v.Mul(w)
			v.Div(w)
			v.Cmp(w)
			v.Neg()
			num.Gcd(v, w)
			num.NewRat(v, w)
		}
	}
	for i, v := range values {
		if v.String() != texts[i] {
			t.Errorf("%s became %s", texts[i], v)
		}
	}
}
