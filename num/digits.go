package num

import "math/bits"

// Natural numbers are slices of digits to the base 2^32, the lowest digit first.
// The highest digit is not 0; the number 0 is nil. The functions here change no
// argument and return new memory, unless they say otherwise.

// trim cuts off leading zeros. The result shares the memory of d, but not what
// lies behind the number, so that nothing that is appended to it overwrites d.
func trim(d []uint32) []uint32 {
	n := len(d)
	for n > 0 && d[n-1] == 0 {
		n--
	}
	if n == 0 {
		return nil
	}
	return d[:n:n]
}

func duplicate(d []uint32) []uint32 {
	if len(d) == 0 {
		return nil
	}
	c := make([]uint32, len(d))
	copy(c, d)
	return c
}

// digit returns the digit at position i, which is 0 beyond the highest one.
func digit(d []uint32, i int) uint32 {
	if i >= len(d) {
		return 0
	}
	return d[i]
}

func fromWord(n uint64) []uint32 {
	return trim([]uint32{uint32(n), uint32(n >> 32)})
}

// toWord returns the value of d, which has at most two digits.
func toWord(d []uint32) uint64 {
	return uint64(digit(d, 0)) | uint64(digit(d, 1))<<32
}

func bitLength(d []uint32) int {
	if len(d) == 0 {
		return 0
	}
	return 32*len(d) - bits.LeadingZeros32(d[len(d)-1])
}

func isOne(d []uint32) bool {
	return len(d) == 1 && d[0] == 1
}

func isOdd(d []uint32) bool {
	return digit(d, 0)&1 == 1
}

func compare(a, b []uint32) int {
	if len(a) != len(b) {
		if len(a) < len(b) {
			return -1
		}
		return 1
	}
	for i := len(a) - 1; i >= 0; i-- {
		if a[i] < b[i] {
			return -1
		}
		if a[i] > b[i] {
			return 1
		}
	}
	return 0
}

func sum(a, b []uint32) []uint32 {
	if len(a) < len(b) {
		a, b = b, a
	}
	total := make([]uint32, len(a)+1)
	copy(total, a)
	carry := uint64(0)
	for i := 0; i < len(b) || carry > 0; i++ {
		carry += uint64(total[i]) + uint64(digit(b, i))
		total[i] = uint32(carry)
		carry >>= 32
	}
	return trim(total)
}

// difference returns a minus b, where b is at most a.
func difference(a, b []uint32) []uint32 {
	rest := duplicate(a)
	subtractProduct(rest, b, 1)
	return trim(rest)
}

// subtractProduct subtracts b times factor from a, in place. The product is at most a.
func subtractProduct(a, b []uint32, factor uint32) {
	carry := uint64(0)
	for i := 0; i < len(b) || carry > 0; i++ {
		carry += uint64(digit(b, i)) * uint64(factor)
		low := uint32(carry)
		carry >>= 32
		if a[i] < low {
			carry++
		}
		a[i] -= low
	}
}

func product(a, b []uint32) []uint32 {
	total := make([]uint32, len(a)+len(b))
	for i, x := range a {
		carry := uint64(0)
		for k, y := range b {
			carry += uint64(x)*uint64(y) + uint64(total[i+k])
			total[i+k] = uint32(carry)
			carry >>= 32
		}
		total[i+len(b)] = uint32(carry)
	}
	return trim(total)
}

// scale multiplies d by factor and adds extra; the result may use the memory of d.
func scale(d []uint32, factor, extra uint32) []uint32 {
	carry := uint64(extra)
	for i, x := range d {
		carry += uint64(x) * uint64(factor)
		d[i] = uint32(carry)
		carry >>= 32
	}
	if carry > 0 {
		d = append(d, uint32(carry))
	}
	return d
}

// shrink divides d by a single digit, in place, and returns the quotient, which
// uses the memory of d, and the remainder.
func shrink(d []uint32, by uint32) ([]uint32, uint32) {
	rest := uint64(0)
	for i := len(d) - 1; i >= 0; i-- {
		rest = rest<<32 | uint64(d[i])
		d[i] = uint32(rest / uint64(by))
		rest %= uint64(by)
	}
	return trim(d), uint32(rest)
}

// shiftLeft multiplies d by 2^count, where count is less than 32. The result has
// one more digit than d, which may be 0.
func shiftLeft(d []uint32, count int) []uint32 {
	shifted := make([]uint32, len(d)+1)
	carry := uint64(0)
	for i, x := range d {
		carry |= uint64(x) << count
		shifted[i] = uint32(carry)
		carry >>= 32
	}
	shifted[len(d)] = uint32(carry)
	return shifted
}

// shiftRight divides d by 2^count, where count is less than 32, in place.
func shiftRight(d []uint32, count int) []uint32 {
	for i := range d {
		pair := uint64(d[i]) | uint64(digit(d, i+1))<<32
		d[i] = uint32(pair >> count)
	}
	return trim(d)
}
