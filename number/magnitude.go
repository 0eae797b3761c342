package number

import (
	"cmp"
	"math"
	"math/bits"
)

const (
	limbBytes = 8
	limbs     = MaxDigits / limbBytes
)

// A magnitude is an absolute value in base 2^64, the lowest limb first. It is an array, so that no two results share memory.
type magnitude [limbs]uint64

// magnitudeOf expects at most MaxDigits digits.
func magnitudeOf(digits []byte) magnitude {
	var m magnitude
	last := len(digits) - 1
	for i, d := range digits {
		m[(last-i)/limbBytes] |= uint64(d) << ((last - i) % limbBytes * 8)
	}
	return m
}

// digits returns nil for 0.
func (m magnitude) digits() []byte {
	top := m.length()
	if top == 0 {
		return nil
	}
	count := (top-1)*limbBytes + (bits.Len64(m[top-1])+7)/8
	digits := make([]byte, count)
	for i := range count {
		digits[count-1-i] = byte(m[i/limbBytes] >> (i % limbBytes * 8))
	}
	return digits
}

// length returns the number of limbs without leading zeros.
func (m magnitude) length() int {
	n := limbs
	for n > 0 && m[n-1] == 0 {
		n--
	}
	return n
}

func (m magnitude) isZero() bool { return m == magnitude{} }

func (m magnitude) compare(n magnitude) int {
	for i := limbs - 1; i > 0; i-- {
		if m[i] != n[i] {
			return cmp.Compare(m[i], n[i])
		}
	}
	return cmp.Compare(m[0], n[0])
}

// add reports whether the sum fits.
func (m magnitude) add(n magnitude) (magnitude, bool) {
	var carry uint64
	for i := range m {
		m[i], carry = bits.Add64(m[i], n[i], carry)
	}
	return m, carry == 0
}

// subtract expects that n is not greater.
func (m magnitude) subtract(n magnitude) magnitude {
	var borrow uint64
	for i := range m {
		m[i], borrow = bits.Sub64(m[i], n[i], borrow)
	}
	return m
}

// multiply reports whether the product fits.
func (m magnitude) multiply(n magnitude) (magnitude, bool) {
	var wide [2 * limbs]uint64
	right := n.length()
	for i := range m.length() {
		var carry uint64
		for j := range right {
			carry, wide[i+j] = multiplyAdd(m[i], n[j], wide[i+j], carry)
		}
		wide[i+right] = carry
	}
	var product magnitude
	copy(product[:], wide[:limbs])
	for _, limb := range wide[limbs:] {
		if limb != 0 {
			return magnitude{}, false
		}
	}
	return product, true
}

// multiplyAdd returns x y + a + b in two limbs, which are always enough.
func multiplyAdd(x, y, a, b uint64) (high, low uint64) {
	high, low = bits.Mul64(x, y)
	low, carry := bits.Add64(low, a, 0)
	high += carry
	low, carry = bits.Add64(low, b, 0)
	return high + carry, low
}

// power goes through the exponent from its highest bit: each product on the way is a power that is not greater than the result (if it is not 0), so that one that does not fit means that the result does not.
func (m magnitude) power(n int) (magnitude, bool) {
	p, ok := magnitude{1}, true
	for i := bits.Len(uint(n)) - 1; i >= 0 && ok; i-- {
		p, ok = p.multiply(p)
		if ok && n>>i&1 == 1 {
			p, ok = p.multiply(m)
		}
	}
	return p, ok
}

func (m magnitude) gcd(n magnitude) magnitude {
	for !n.isZero() {
		_, rest := m.divide(n)
		m, n = n, rest
	}
	return m
}

// divide expects that n is not 0.
func (m magnitude) divide(n magnitude) (quotient, rest magnitude) {
	if m.compare(n) < 0 {
		return magnitude{}, m
	}
	if n.length() == 1 {
		quotient, low := m.divideLimb(n[0])
		return quotient, magnitude{low}
	}
	return m.divideLong(n)
}

// divideLimb expects that n is not 0.
func (m magnitude) divideLimb(n uint64) (magnitude, uint64) {
	var rest uint64
	for i := m.length() - 1; i >= 0; i-- {
		m[i], rest = bits.Div64(rest, m[i], n)
	}
	return m, rest
}

// divideLong is Knuth's algorithm D, for a divisor of at least two limbs. With the highest bit of the divisor set, the estimate of a limb of the quotient is hardly ever too large.
func (m magnitude) divideLong(n magnitude) (quotient, rest magnitude) {
	count := n.length()
	shift := bits.LeadingZeros64(n[count-1])
	divisor, _ := n.shiftLeft(shift)
	low, high := m.shiftLeft(shift)
	var left dividend
	copy(left[:], low[:])
	left[limbs] = high
	for at := limbs - count; at >= 0; at-- {
		guess := estimate(left[at+count], left[at+count-1], left[at+count-2], divisor[count-1], divisor[count-2])
		quotient[at] = left.reduce(divisor[:count], at, guess)
	}
	copy(rest[:], left[:limbs])
	return quotient, rest.shiftRight(shift)
}

// A dividend has one more limb, for the bits that are shifted out of a magnitude.
type dividend [limbs + 1]uint64

// reduce subtracts the divisor at a limb as often as possible, and returns how often. The guess is not too small.
func (d *dividend) reduce(divisor []uint64, at int, guess uint64) uint64 {
	var carry, borrow uint64
	for i, limb := range divisor {
		var low uint64
		carry, low = multiplyAdd(limb, guess, carry, 0)
		d[at+i], borrow = bits.Sub64(d[at+i], low, borrow)
	}
	top := at + len(divisor)
	d[top], borrow = bits.Sub64(d[top], carry, borrow)
	for borrow != 0 {
		guess--
		carry = 0
		for i, limb := range divisor {
			d[at+i], carry = bits.Add64(d[at+i], limb, carry)
		}
		d[top], carry = bits.Add64(d[top], 0, carry)
		borrow -= carry
	}
	return guess
}

// estimate returns a limb of a quotient from the highest limbs of the dividend and of the divisor: it is never too small, and too large by 2 at most.
func estimate(u2, u1, u0, v1, v0 uint64) uint64 {
	if u2 >= v1 {
		return math.MaxUint64
	}
	guess, rest := bits.Div64(u2, u1, v1)
	for {
		high, low := bits.Mul64(guess, v0)
		if high < rest || high == rest && low <= u0 {
			return guess
		}
		guess--
		next, carry := bits.Add64(rest, v1, 0)
		if carry != 0 {
			return guess
		}
		rest = next
	}
}

// shiftLeft returns also what is shifted out; n is from 0 to 63.
func (m magnitude) shiftLeft(n int) (magnitude, uint64) {
	var out uint64
	for i, limb := range m {
		// In Go a shift by 64 bits gives 0, so that a shift by 0 bits needs no case of its own.
		m[i], out = limb<<n|out, limb>>(64-n)
	}
	return m, out
}

// shiftRight drops what is shifted out; n is from 0 to 63.
func (m magnitude) shiftRight(n int) magnitude {
	var in uint64
	for i := limbs - 1; i >= 0; i-- {
		m[i], in = m[i]>>n|in, m[i]<<(64-n)
	}
	return m
}
