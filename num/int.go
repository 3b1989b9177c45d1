// Package num provides exact integers, fractions and decimals.
package num

import (
	"math"

	"acrospire/api"
)

// Int is an integer of at most api.MaxBits binary digits. Its zero value is 0.
type Int struct {
	negative bool // never with 0, so that equal integers have equal fields
	digits   []uint32
}

// New returns the integer n.
func New(n int) Int {
	size := uint64(n)
	if n < 0 {
		size = -size
	}
	return signed(n < 0, fromWord(size))
}

// Parse returns the integer whose numeral is s.
func Parse(s string) (Int, api.Errno) {
	if !isNumeral(s) {
		return Int{}, api.ErrSyntax
	}
	return readNumeral(s)
}

// String returns the numeral of a.
func (a Int) String() string {
	text := writeDigits(a.digits)
	if a.negative {
		return "-" + text
	}
	return text
}

// Int returns a as an int, if it is one.
func (a Int) Int() (int, bool) {
	if len(a.digits) > 2 {
		return 0, false
	}
	size := toWord(a.digits)
	switch {
	case a.negative && size <= math.MaxInt+1:
		// For the least int the conversion wraps around, and so does the negation.
		return -int(size), true
	case !a.negative && size <= math.MaxInt:
		return int(size), true
	}
	return 0, false
}

// Sign returns -1, 0 or 1.
func (a Int) Sign() int {
	if a.negative {
		return -1
	}
	if len(a.digits) > 0 {
		return 1
	}
	return 0
}

// BitLen returns the number of binary digits of the absolute value.
func (a Int) BitLen() int {
	return bitLength(a.digits)
}

// Cmp returns -1, 0 or 1 if a is less than, equal to or greater than b.
func (a Int) Cmp(b Int) int {
	if a.negative && b.negative {
		return compare(b.digits, a.digits)
	}
	if a.negative {
		return -1
	}
	if b.negative {
		return 1
	}
	return compare(a.digits, b.digits)
}

// Neg returns the negated integer.
func (a Int) Neg() Int {
	return signed(!a.negative, duplicate(a.digits))
}

// Add returns the sum.
func (a Int) Add(b Int) (Int, api.Errno) {
	return fitting(plus(a, b))
}

// Sub returns the difference.
func (a Int) Sub(b Int) (Int, api.Errno) {
	return fitting(plus(a, b.Neg()))
}

// Mul returns the product.
func (a Int) Mul(b Int) (Int, api.Errno) {
	return fitting(times(a, b))
}

// Div returns the quotient and the remainder, which is not negative.
func (a Int) Div(b Int) (Int, Int, api.Errno) {
	if len(b.digits) == 0 {
		return Int{}, Int{}, api.ErrZero
	}
	quotient, rest := divide(a.digits, b.digits)
	if a.negative && len(rest) > 0 {
		quotient = sum(quotient, []uint32{1})
		rest = difference(b.digits, rest)
	}
	return signed(a.negative != b.negative, quotient), signed(false, rest), api.OK
}

// Gcd returns the greatest common divisor.
func Gcd(a, b Int) Int {
	return signed(false, commonDivisor(a.digits, b.digits))
}

// signed returns the integer with this sign and these digits, which it keeps.
func signed(negative bool, digits []uint32) Int {
	return Int{negative && len(digits) > 0, digits}
}

func fitting(a Int) (Int, api.Errno) {
	if a.BitLen() > api.MaxBits {
		return Int{}, api.ErrRange
	}
	return a, api.OK
}

// plus is Add without a limit: fractions compute with integers that need not fit.
func plus(a, b Int) Int {
	if a.negative == b.negative {
		return signed(a.negative, sum(a.digits, b.digits))
	}
	if compare(a.digits, b.digits) < 0 {
		return signed(b.negative, difference(b.digits, a.digits))
	}
	return signed(a.negative, difference(a.digits, b.digits))
}

// times is Mul without a limit.
func times(a, b Int) Int {
	return signed(a.negative != b.negative, product(a.digits, b.digits))
}
