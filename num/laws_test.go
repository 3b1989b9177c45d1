package num_test

import (
	"math/big"
	"math/rand"
	"testing"

	"acrospire/api"
	"acrospire/num"
)

// P1.5, and what P8 says of it

type calculation[T any] func(a, b T) (T, api.Errno)

// done returns a function that computes, and fails the test if a result does not fit.
func done[T any](t *testing.T, compute calculation[T]) func(a, b T) T {
	return func(a, b T) T {
		c, e := compute(a, b)
		if e != api.OK {
			t.Fatalf("a result has the error %d", e)
		}
		return c
	}
}

func TestLawsOfIntegers(t *testing.T) {
	add, sub, mul := done(t, num.Int.Add), done(t, num.Int.Sub), done(t, num.Int.Mul)
	same := func(law string, a, b num.Int) {
		if a.Cmp(b) != 0 || a.String() != b.String() {
			t.Errorf("%s: %s and %s", law, a, b)
		}
	}
	r := rand.New(rand.NewSource(6))
	for range 2000 {
		a, b, c := integer(t, random(r, 200)), integer(t, random(r, 200)), integer(t, random(r, 200))
		same("a + b = b + a", add(a, b), add(b, a))
		same("ab = ba", mul(a, b), mul(b, a))
		same("(a + b) + c = a + (b + c)", add(add(a, b), c), add(a, add(b, c)))
		same("(ab)c = a(bc)", mul(mul(a, b), c), mul(a, mul(b, c)))
		same("a(b + c) = ab + ac", mul(a, add(b, c)), add(mul(a, b), mul(a, c)))
		same("(a - b) + b = a", add(sub(a, b), b), a)
		same("a + -a = 0", add(a, a.Neg()), num.Int{})
		same("1a = a", mul(num.New(1), a), a)
		if b.Sign() == 0 {
			continue
		}
		q, rest, _ := a.Div(b)
		same("a = qb + r", add(mul(q, b), rest), a)
		if rest.Sign() < 0 || rest.Cmp(b) >= 0 && rest.Cmp(b.Neg()) >= 0 {
			t.Errorf("%s mod %s = %s", a, b, rest)
		}
		q, rest, _ = mul(a, b).Div(b)
		same("ab by b = a", q, a)
		same("ab mod b = 0", rest, num.Int{})
		same("gcd(ac, bc) = gcd(a, b)|c|", num.Gcd(mul(a, c), mul(b, c)), num.Gcd(mul(num.Gcd(a, b), c), num.Int{}))
	}
}

func TestLawsOfFractions(t *testing.T) {
	add, sub, mul, quo := done(t, num.Rat.Add), done(t, num.Rat.Sub), done(t, num.Rat.Mul), done(t, num.Rat.Quo)
	same := func(law string, a, b num.Rat) {
		if a.Cmp(b) != 0 || a.String() != b.String() {
			t.Errorf("%s: %s and %s", law, a, b)
		}
	}
	r := rand.New(rand.NewSource(7))
	for range 1000 {
		a, b, c := ratio(t, randomRat(r, 100)), ratio(t, randomRat(r, 100)), ratio(t, randomRat(r, 100))
		same("a + b = b + a", add(a, b), add(b, a))
		same("ab = ba", mul(a, b), mul(b, a))
		same("(a + b) + c = a + (b + c)", add(add(a, b), c), add(a, add(b, c)))
		same("(ab)c = a(bc)", mul(mul(a, b), c), mul(a, mul(b, c)))
		same("a(b + c) = ab + ac", mul(a, add(b, c)), add(mul(a, b), mul(a, c)))
		same("(a - b) + b = a", add(sub(a, b), b), a)
		same("a + -a = 0", add(a, a.Neg()), num.Rat{})
		same("1a = a", mul(num.Of(1), a), a)
		whole, _ := num.NewRat(a.Floor(), num.New(1))
		if part := sub(a, whole); part.Sign() < 0 || part.Cmp(num.Of(1)) >= 0 {
			t.Errorf("%s - its Floor = %s", a, part)
		}
		if b.Sign() != 0 {
			same("(a by b)b = a", mul(quo(a, b), b), a)
			same("a by b = a(1 by b)", quo(a, b), mul(a, quo(num.Of(1), b)))
		}
		if sub(a, b).Sign() != a.Cmp(b) || a.Cmp(b) != -b.Cmp(a) {
			t.Errorf("%s Cmp %s = %d", a, b, a.Cmp(b))
		}
	}
}

func TestValuesAreRecoveredFromTheirTexts(t *testing.T) {
	r := rand.New(rand.NewSource(8))
	ints, rats := samples(), ratSamples()
	for range 500 {
		ints = append(ints, random(r, 400))
		rats = append(rats, randomRat(r, 400))
	}
	for _, n := range ints {
		a := integer(t, n)
		b, e := num.Parse(a.String())
		if b.Cmp(a) != 0 || e != api.OK {
			t.Errorf("%s is read as %s, %d", short(a.String()), short(b.String()), e)
		}
	}
	for _, q := range rats {
		f := ratio(t, q)
		g, e := num.ParseRat(f.String())
		if g.Cmp(f) != 0 || e != api.OK {
			t.Errorf("%s is read as %s, %d", short(f.String()), short(g.String()), e)
		}
	}
	for range 500 {
		places := r.Intn(api.MaxPlaces + 1)
		f := ratio(t, new(big.Rat).SetFrac(random(r, 300), power(10, int64(places))))
		s, _ := f.Decimal(places)
		g, e := num.ParseDecimal(s)
		if g.Cmp(f) != 0 || e != api.OK {
			t.Errorf("%s, as %s, is read as %s, %d", f, s, g, e)
		}
	}
}

func TestDistanceOfDecimals(t *testing.T) {
	r := rand.New(rand.NewSource(9))
	for range 1000 {
		f := ratio(t, randomRat(r, 250))
		places := r.Intn(api.MaxPlaces + 1)
		s, _ := f.Decimal(places)
		g, e := num.ParseDecimal(s)
		if e != api.OK {
			t.Fatalf("ParseDecimal(%s) = %d", s, e)
		}
		distance, _ := f.Sub(g)
		if distance.Sign() < 0 {
			distance = distance.Neg()
		}
		if unit := ratio(t, new(big.Rat).SetFrac(big.NewInt(1), power(10, int64(places)))); done(t, num.Rat.Add)(distance, distance).Cmp(unit) > 0 {
			t.Errorf("%s is too far from %s", f, s)
		}
	}
}
