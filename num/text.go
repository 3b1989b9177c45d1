package num

import (
	"slices"
	"strings"

	"acrospire/api"
)

// Decimal digits are read and written in groups that fit into one digit to the base 2^32.
const (
	groupSize = 9
	groupBase = 1000000000
)

// mostDigits is how many decimal digits an integer that fits has at most: log10(2) is
// a little less than 0.30103. Longer texts are refused before the work of reading them.
const mostDigits = api.MaxBits*30103/100000 + 1

// hasDigits tells whether s consists of decimal digits, of at least one.
func hasDigits(s string) bool {
	for i := 0; i < len(s); i++ {
		if s[i] < '0' || s[i] > '9' {
			return false
		}
	}
	return s != ""
}

// isPositive tells whether s is the numeral of an integer greater than 0.
func isPositive(s string) bool {
	return hasDigits(s) && s[0] != '0'
}

func isNumeral(s string) bool {
	return s == "0" || isPositive(strings.TrimPrefix(s, "-"))
}

// readNumeral returns the integer of a numeral, if it fits.
func readNumeral(numeral string) (Int, api.Errno) {
	text, negative := strings.CutPrefix(numeral, "-")
	if len(text) > mostDigits {
		return Int{}, api.ErrRange
	}
	return fitting(signed(negative, readDigits(text)))
}

// readDigits returns the number with these decimal digits.
func readDigits(text string) []uint32 {
	var d []uint32
	for len(text) > 0 {
		size := (len(text)-1)%groupSize + 1
		group, base := uint32(0), uint32(1)
		for i := range size {
			group = group*10 + uint32(text[i]-'0')
			base *= 10
		}
		d = scale(d, base, group)
		text = text[size:]
	}
	return d
}

// writeDigits returns the numeral of d.
func writeDigits(d []uint32) string {
	if len(d) == 0 {
		return "0"
	}
	rest := duplicate(d)
	group := uint32(0)
	var text []byte
	for len(rest) > 0 {
		rest, group = shrink(rest, groupBase)
		for i := 0; i < groupSize && (group > 0 || len(rest) > 0); i++ {
			text = append(text, byte('0'+group%10))
			group /= 10
		}
	}
	slices.Reverse(text)
	return string(text)
}

func powerOfTen(exponent int) []uint32 {
	power := []uint32{1}
	for range exponent {
		power = scale(power, 10, 0)
	}
	return power
}
