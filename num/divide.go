package num

import "math/bits"

// divide returns the quotient and the remainder of a by b, which is not 0.
func divide(a, b []uint32) ([]uint32, []uint32) {
	if len(b) == 1 {
		quotient, rest := shrink(duplicate(a), b[0])
		return quotient, fromWord(uint64(rest))
	}
	if compare(a, b) < 0 {
		return nil, duplicate(a)
	}
	return divideLong(a, b)
}

// divideLong is divide for an a that is at least b. Both are shifted first, so
// that the highest bit of the divisor is set and the estimates are good.
func divideLong(a, b []uint32) ([]uint32, []uint32) {
	shift := bits.LeadingZeros32(b[len(b)-1])
	divisor := trim(shiftLeft(b, shift))
	rest := shiftLeft(a, shift)
	quotient := make([]uint32, len(a)-len(b)+1)
	at := len(a) - len(b)
division:
	for {
		end := at + len(divisor) + 1
		part := rest[at:end:end]
		switch {
		case compare(trim(part), divisor) >= 0:
			times := estimate(part, divisor)
			subtractProduct(part, divisor, times)
			quotient[at] += times
		case at > 0:
			at--
		default:
			break division
		}
	}
	return trim(quotient), shiftRight(trim(rest), shift)
}

// estimate returns how often part contains the divisor, or up to 2 less, but at least
// 1. The part is at least the divisor and less than the divisor times 2^32; it is
// given with one more digit.
func estimate(part, divisor []uint32) uint32 {
	n := len(divisor)
	high := uint64(part[n])<<32 | uint64(part[n-1])
	return max(uint32(high/(uint64(divisor[n-1])+1)), 1)
}
