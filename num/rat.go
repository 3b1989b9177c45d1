package num

import (
	"strings"

	"acrospire/api"
)

// Rat is a fraction in lowest terms. Its zero value is 0.
type Rat struct {
	num Int
	den []uint32 // nil stands for 1, for the sake of the zero value
}

// NewRat returns the quotient of two integers.
func NewRat(num, den Int) (Rat, api.Errno) {
	if den.Sign() == 0 {
		return Rat{}, api.ErrZero
	}
	return reduced(num, den), api.OK
}

// Of returns the fraction n.
func Of(n int) Rat {
	return Rat{num: New(n)}
}

// ParseRat returns the fraction whose String is s.
func ParseRat(s string) (Rat, api.Errno) {
	top, bottom, divided := strings.Cut(s, "/")
	if !isNumeral(top) || divided && (!isPositive(bottom) || bottom == "1") {
		return Rat{}, api.ErrSyntax
	}
	num, err := readNumeral(top)
	if err != api.OK {
		return Rat{}, err
	}
	if !divided {
		return Rat{num: num}, api.OK
	}
	den, err := readNumeral(bottom)
	if err != api.OK {
		return Rat{}, err
	}
	if !isOne(commonDivisor(num.digits, den.digits)) {
		return Rat{}, api.ErrSyntax
	}
	return Rat{num, den.digits}, api.OK
}

// ParseDecimal returns the fraction that the decimal s denotes.
func ParseDecimal(s string) (Rat, api.Errno) {
	text, negative := strings.CutPrefix(s, "-")
	whole, places, pointed := strings.Cut(text, ".")
	if whole != "0" && !isPositive(whole) {
		return Rat{}, api.ErrSyntax
	}
	if pointed && (!hasDigits(places) || len(places) > api.MaxPlaces) {
		return Rat{}, api.ErrSyntax
	}
	if len(whole) > mostDigits {
		return Rat{}, api.ErrRange
	}
	digits := readDigits(whole + places)
	if negative && len(digits) == 0 {
		return Rat{}, api.ErrSyntax
	}
	unit := signed(false, powerOfTen(len(places)))
	return fittingRat(reduced(signed(negative, digits), unit))
}

// String returns the numeral of the numerator and, if the denominator is not 1, a
// slash and the numeral of the denominator.
func (f Rat) String() string {
	if len(f.den) == 0 {
		return f.num.String()
	}
	return f.num.String() + "/" + writeDigits(f.den)
}

// Decimal returns the decimal with this number of places that is nearest to f, or, of
// two, the even one.
func (f Rat) Decimal(places int) (string, api.Errno) {
	if places < 0 || places > api.MaxPlaces {
		return "", api.ErrArg
	}
	den := f.Den().digits
	nearest, rest := divide(product(f.num.digits, powerOfTen(places)), den)
	half := compare(sum(rest, rest), den)
	if half > 0 || half == 0 && isOdd(nearest) {
		nearest = sum(nearest, []uint32{1})
	}
	text := withPoint(writeDigits(nearest), places)
	if f.num.negative && len(nearest) > 0 {
		text = "-" + text
	}
	return text, api.OK
}

// withPoint puts a point before the last places of a numeral.
func withPoint(text string, places int) string {
	if places == 0 {
		return text
	}
	if len(text) <= places {
		text = strings.Repeat("0", places+1-len(text)) + text
	}
	whole := len(text) - places
	return text[:whole] + "." + text[whole:]
}

// Num returns the numerator, which has the sign.
func (f Rat) Num() Int {
	return signed(f.num.negative, duplicate(f.num.digits))
}

// Den returns the denominator.
func (f Rat) Den() Int {
	if len(f.den) == 0 {
		return New(1)
	}
	return signed(false, duplicate(f.den))
}

// Sign returns -1, 0 or 1.
func (f Rat) Sign() int {
	return f.num.Sign()
}

// Cmp returns -1, 0 or 1 if f is less than, equal to or greater than g.
func (f Rat) Cmp(g Rat) int {
	return times(f.num, g.Den()).Cmp(times(g.num, f.Den()))
}

// Neg returns the negated fraction.
func (f Rat) Neg() Rat {
	return Rat{f.num.Neg(), duplicate(f.den)}
}

// Add returns the sum.
func (f Rat) Add(g Rat) (Rat, api.Errno) {
	num := plus(times(f.num, g.Den()), times(g.num, f.Den()))
	return fittingRat(reduced(num, times(f.Den(), g.Den())))
}

// Sub returns the difference.
func (f Rat) Sub(g Rat) (Rat, api.Errno) {
	return f.Add(g.Neg())
}

// Mul returns the product.
func (f Rat) Mul(g Rat) (Rat, api.Errno) {
	return fittingRat(reduced(times(f.num, g.num), times(f.Den(), g.Den())))
}

// Quo returns the quotient.
func (f Rat) Quo(g Rat) (Rat, api.Errno) {
	if g.Sign() == 0 {
		return Rat{}, api.ErrZero
	}
	return fittingRat(reduced(times(f.num, g.Den()), times(f.Den(), g.num)))
}

// Floor returns the greatest integer that is at most f.
func (f Rat) Floor() Int {
	// The remainder is not negative, so that the quotient is rounded down.
	floor, _, _ := f.num.Div(f.Den())
	return floor
}

// reduced returns the quotient, in lowest terms, of two integers that need not fit.
// The second one is not 0.
func reduced(num, den Int) Rat {
	common := commonDivisor(num.digits, den.digits)
	top, _ := divide(num.digits, common)
	bottom, _ := divide(den.digits, common)
	if isOne(bottom) {
		bottom = nil
	}
	return Rat{signed(num.negative != den.negative, top), bottom}
}

func fittingRat(f Rat) (Rat, api.Errno) {
	if f.num.BitLen() > api.MaxBits || bitLength(f.den) > api.MaxBits {
		return Rat{}, api.ErrRange
	}
	return f, api.OK
}
