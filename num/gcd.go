package num

// commonDivisor returns the greatest common divisor by Lehmer's method: the highest
// 64 bits tell what several steps of Euclid's method do, and these are then applied
// at once to all the digits.
func commonDivisor(a, b []uint32) []uint32 {
	a, b = duplicate(a), duplicate(b)
	if compare(a, b) < 0 {
		a, b = b, a
	}
	for len(b) > 0 && bitLength(a) > 64 {
		low := bitLength(a) - 64
		s := foresee(window(a, low), window(b, low))
		if s.fromB == 0 {
			_, rest := divide(a, b)
			a, b = b, rest
		} else {
			a, b = s.apply(a, b)
		}
	}
	if len(b) == 0 {
		return a
	}
	return fromWord(commonWord(toWord(a), toWord(b)))
}

func commonWord(a, b uint64) uint64 {
	for b > 0 {
		a, b = b, a%b
	}
	return a
}

// window returns 64 bits of d, from the bit at position low on.
func window(d []uint32, low int) uint64 {
	i, shift := low/32, low%32
	pair := uint64(digit(d, i)) | uint64(digit(d, i+1))<<32
	return pair>>shift | uint64(digit(d, i+2))<<(64-shift)
}

// steps says what several steps of Euclid's method make of a and b: a times fromA
// minus b times fromB, and b times nextB minus a times nextA, both negated if the
// number of the steps is odd.
type steps struct {
	fromA, fromB uint64
	nextA, nextB uint64
	odd          bool
}

// foresee performs steps on the highest bits of two numbers, a and b, where a is at
// least b, as long as the bits below cannot change the quotients (Collins' condition).
// The last of these steps is left out, so that the factors have at most 32 bits; if
// nothing is known, fromB is 0.
func foresee(a, b uint64) steps {
	s := steps{nextA: 1, odd: true}
	lastA, lastB := uint64(0), uint64(1)
	for b >= lastB && a-b >= s.nextB+lastB {
		q := a / b
		a, b = b, a%b
		s.fromA, s.nextA, lastA = s.nextA, lastA, s.nextA+q*lastA
		s.fromB, s.nextB, lastB = s.nextB, lastB, s.nextB+q*lastB
		s.odd = !s.odd
	}
	return s
}

func (s steps) apply(a, b []uint32) ([]uint32, []uint32) {
	if s.odd {
		return combine(b, s.fromB, a, s.fromA), combine(a, s.nextA, b, s.nextB)
	}
	return combine(a, s.fromA, b, s.fromB), combine(b, s.nextB, a, s.nextA)
}

// combine returns a times forA minus b times forB. The factors have at most 32 bits,
// and the result is not negative, and not greater than the greater one of a and b.
func combine(a []uint32, forA uint64, b []uint32, forB uint64) []uint32 {
	result := make([]uint32, max(len(a), len(b)))
	add, subtract, borrow := uint64(0), uint64(0), uint64(0)
	for i := range result {
		add += uint64(digit(a, i)) * forA
		subtract += uint64(digit(b, i)) * forB
		rest := uint64(uint32(add)) - uint64(uint32(subtract)) - borrow
		result[i] = uint32(rest)
		borrow = rest >> 63
		add >>= 32
		subtract >>= 32
	}
	return trim(result)
}
