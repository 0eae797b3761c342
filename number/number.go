// Package number calculates with signed integers of up to 512 bits (layer 1, see shared/doc/01-number.md).
package number

import (
	"bytes"
	"cmp"
	"math"

	"bandplan/api"
)

// The limits of this layer.
const (
	MaxBits   = 512
	MaxDigits = MaxBits / 8
)

// Valid reports whether an Int is valid.
func Valid(a api.Int) bool {
	if len(a.Digits) == 0 {
		return !a.Neg
	}
	return len(a.Digits) <= MaxDigits && a.Digits[0] != 0
}

// Of returns an int as an Int.
func Of(n int) api.Int {
	if n < 0 {
		// The negation wraps around for the smallest int, whose absolute value is then still right without a sign.
		return signed(true, magnitude{-uint64(n)})
	}
	return signed(false, magnitude{uint64(n)})
}

// Value returns an Int as an int.
func Value(a api.Int) (int, api.Errno) {
	if !Valid(a) {
		return 0, api.ErrArg
	}
	m := magnitudeOf(a.Digits)
	limit := uint64(math.MaxInt)
	if a.Neg {
		limit++
	}
	if m.length() > 1 || m[0] > limit {
		return 0, api.ErrRange
	}
	if a.Neg {
		return int(-m[0]), api.OK
	}
	return int(m[0]), api.OK
}

// Compare compares two Ints.
func Compare(a, b api.Int) int {
	if !Valid(a) || !Valid(b) {
		return 0
	}
	if a.Neg != b.Neg {
		if a.Neg {
			return -1
		}
		return 1
	}
	order := compareDigits(a.Digits, b.Digits)
	if a.Neg {
		return -order
	}
	return order
}

// compareDigits relies on the missing leading zeros of valid Ints: more digits are a greater value.
func compareDigits(a, b []byte) int {
	if len(a) != len(b) {
		return cmp.Compare(len(a), len(b))
	}
	return bytes.Compare(a, b)
}

// Sign returns the sign of an Int.
func Sign(a api.Int) int { return Compare(a, api.Int{}) }

// Neg returns an Int with the other sign.
func Neg(a api.Int) (api.Int, api.Errno) {
	if !Valid(a) {
		return api.Int{}, api.ErrArg
	}
	return signed(!a.Neg, magnitudeOf(a.Digits)), api.OK
}

// Add returns a sum.
func Add(a, b api.Int) (api.Int, api.Errno) {
	if !Valid(a) || !Valid(b) {
		return api.Int{}, api.ErrArg
	}
	return sum(a.Neg, magnitudeOf(a.Digits), b.Neg, magnitudeOf(b.Digits))
}

// Sub returns a difference.
func Sub(a, b api.Int) (api.Int, api.Errno) {
	if !Valid(a) || !Valid(b) {
		return api.Int{}, api.ErrArg
	}
	return sum(a.Neg, magnitudeOf(a.Digits), !b.Neg, magnitudeOf(b.Digits))
}

// sum adds two integers that are given as signs and absolute values; here, 0 may have either sign.
func sum(aNeg bool, a magnitude, bNeg bool, b magnitude) (api.Int, api.Errno) {
	if aNeg == bNeg {
		total, ok := a.add(b)
		return checked(aNeg, total, ok)
	}
	if a.compare(b) < 0 {
		return signed(bNeg, b.subtract(a)), api.OK
	}
	return signed(aNeg, a.subtract(b)), api.OK
}

// Mul returns a product.
func Mul(a, b api.Int) (api.Int, api.Errno) {
	if !Valid(a) || !Valid(b) {
		return api.Int{}, api.ErrArg
	}
	product, ok := magnitudeOf(a.Digits).multiply(magnitudeOf(b.Digits))
	return checked(a.Neg != b.Neg, product, ok)
}

// DivMod returns a quotient, rounded down, and its remainder.
func DivMod(a, b api.Int) (api.Int, api.Int, api.Errno) {
	if !Valid(a) || !Valid(b) || len(b.Digits) == 0 {
		return api.Int{}, api.Int{}, api.ErrArg
	}
	divisor := magnitudeOf(b.Digits)
	quotient, remainder := magnitudeOf(a.Digits).divide(divisor)
	if a.Neg != b.Neg && !remainder.isZero() {
		// The division of absolute values rounds towards 0, that is, up. There is a remainder, so the divisor is at least 2 and the quotient has room for 1 more.
		quotient, _ = quotient.add(magnitude{1})
		remainder = divisor.subtract(remainder)
	}
	return signed(a.Neg != b.Neg, quotient), signed(b.Neg, remainder), api.OK
}

// GCD returns the greatest common divisor.
func GCD(a, b api.Int) (api.Int, api.Errno) {
	if !Valid(a) || !Valid(b) {
		return api.Int{}, api.ErrArg
	}
	return signed(false, magnitudeOf(a.Digits).gcd(magnitudeOf(b.Digits))), api.OK
}

// Power returns a power.
func Power(a api.Int, n int) (api.Int, api.Errno) {
	if !Valid(a) || n < 0 {
		return api.Int{}, api.ErrArg
	}
	power, ok := magnitudeOf(a.Digits).power(n)
	return checked(a.Neg && n%2 == 1, power, ok)
}

// checked returns ErrFull for an absolute value that did not fit.
func checked(neg bool, m magnitude, ok bool) (api.Int, api.Errno) {
	if !ok {
		return api.Int{}, api.ErrFull
	}
	return signed(neg, m), api.OK
}

// signed drops the sign of 0, which has only one form.
func signed(neg bool, m magnitude) api.Int {
	return api.Int{Neg: neg && !m.isZero(), Digits: m.digits()}
}
