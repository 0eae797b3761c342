package number

import (
	"strconv"
	"strings"

	"bandplan/api"
)

// A chunk is the largest power of ten that a limb can hold.
const (
	chunkDigits = 19
	chunk       = 10_000_000_000_000_000_000
)

// Digits10 returns the number of decimal digits.
func Digits10(a api.Int) int {
	if !Valid(a) {
		return 0
	}
	return len(magnitudeOf(a.Digits).decimal())
}

// Text returns an Int in decimal.
func Text(a api.Int) string {
	if !Valid(a) {
		return ""
	}
	digits := magnitudeOf(a.Digits).decimal()
	if a.Neg {
		return "-" + digits
	}
	return digits
}

func (m magnitude) decimal() string {
	text := ""
	for {
		var low uint64
		m, low = m.divideLimb(chunk)
		part := strconv.FormatUint(low, 10)
		if m.isZero() {
			return part + text
		}
		text = strings.Repeat("0", chunkDigits-len(part)) + part + text
	}
}

// Parse returns the Int of a decimal string.
func Parse(s string) (api.Int, api.Errno) {
	digits, neg := strings.CutPrefix(s, "-")
	if !isDecimal(digits) || neg && digits == "0" {
		return api.Int{}, api.ErrFormat
	}
	m, ok := fromDecimal(digits)
	return checked(neg, m, ok)
}

func isDecimal(s string) bool {
	if s == "" || s[0] == '0' && len(s) > 1 {
		return false
	}
	for i := range len(s) {
		if s[i] < '0' || s[i] > '9' {
			return false
		}
	}
	return true
}

// fromDecimal reports whether the value fits. It stops at the first digit that does not, however long the string is.
func fromDecimal(digits string) (magnitude, bool) {
	var m magnitude
	for i := range len(digits) {
		carry := uint64(digits[i] - '0')
		for j, limb := range m {
			carry, m[j] = multiplyAdd(limb, 10, carry, 0)
		}
		if carry != 0 {
			return magnitude{}, false
		}
	}
	return m, true
}
