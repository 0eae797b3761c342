package number_test

import (
	"bytes"
	"math/big"
	"strconv"
	"testing"

	"bandplan/api"
	"bandplan/number"
)

// toBig reads an Int by its definition, not by the package under test.
func toBig(a api.Int) *big.Int {
	b := new(big.Int).SetBytes(a.Digits)
	if a.Neg {
		b.Neg(b)
	}
	return b
}

// fromBig does not limit the number of digits.
func fromBig(b *big.Int) api.Int { return api.Int{Neg: b.Sign() < 0, Digits: b.Bytes()} }

// of reads an integer that may be written with big.Int's prefixes.
func of(s string) api.Int {
	b, ok := new(big.Int).SetString(s, 0)
	if !ok {
		panic(s)
	}
	return fromBig(b)
}

// near returns 2^n + d.
func near(n uint, d int64) *big.Int {
	b := new(big.Int).Lsh(big.NewInt(1), n)
	return b.Add(b, big.NewInt(d))
}

func fits(b *big.Int) bool { return b.BitLen() <= 512 }

func same(a, b api.Int) bool { return a.Neg == b.Neg && bytes.Equal(a.Digits, b.Digits) }

func empty(a api.Int) bool { return same(a, api.Int{}) }

func copyOf(a api.Int) api.Int { return api.Int{Neg: a.Neg, Digits: bytes.Clone(a.Digits)} }

// show names an Int, also one that is not valid, in messages.
func show(a api.Int) string {
	s := toBig(a).String()
	return s + " (" + strconv.FormatBool(a.Neg) + ", " + strconv.Itoa(len(a.Digits)) + " digits)"
}

// most is 2^512 - 1.
func most() api.Int { return fromBig(near(512, -1)) }

// least is -(2^512 - 1).
func least() api.Int { return api.Int{Neg: true, Digits: most().Digits} }

// invalid returns Ints that are not valid, each for its own reason or for several ones.
func invalid() []api.Int {
	long := append([]byte{1}, make([]byte, 64)...)
	return []api.Int{
		{Neg: true},
		{Neg: true, Digits: []byte{}},
		{Digits: []byte{0}},
		{Neg: true, Digits: []byte{0}},
		{Digits: []byte{0, 1}},
		{Neg: true, Digits: []byte{0, 0, 7}},
		{Digits: append([]byte{0}, most().Digits[1:]...)},
		{Digits: long},
		{Neg: true, Digits: long},
		{Digits: append([]byte{0}, most().Digits...)},
		{Digits: bytes.Repeat([]byte{255}, 65)},
		{Digits: bytes.Repeat([]byte{9}, 5000)},
		{Digits: make([]byte, 65)},
	}
}

// samples returns valid Ints of both signs: small ones, ones around the borders of bytes, words and ints, the largest ones, and ones whose words are all 0 or all 1 in places, for which estimates in a division are wrong.
func samples() []api.Int {
	list := []*big.Int{new(big.Int)}
	for _, n := range []int64{1, 2, 3, 5, 6, 7, 9, 10, 12, 18, 99, 100, 101, 255, 257, 1000, 65535, 65537} {
		list = append(list, big.NewInt(n))
	}
	for _, n := range []uint{8, 31, 32, 62, 63, 64, 65, 127, 128, 192, 255, 256, 257, 320, 448, 503, 504, 510, 511} {
		for _, d := range []int64{-1, 0, 1} {
			list = append(list, near(n, d))
		}
	}
	list = append(list, near(512, -1), near(512, -2))
	for _, s := range []string{
		"0x8000000000000000ffffffffffffffff", "0x80000000000000000000000000000000ffffffffffffffff",
		"0x7fffffffffffffff80000000000000000000000000000000", "0x800000000000000000000000000000010000000000000000",
		"0x10000000000000001", "0xfffffffffffffffeffffffffffffffff", "0xfffffffffffffffe0000000000000000ffffffffffffffff",
		"10000000000000000000", "9999999999999999999", "100000000000000000000000000000000000000", "123456789012345678901234567890",
	} {
		list = append(list, toBig(of(s)))
	}
	var ints []api.Int
	for _, b := range list {
		ints = append(ints, fromBig(b))
		if b.Sign() > 0 {
			ints = append(ints, fromBig(new(big.Int).Neg(b)))
		}
	}
	return ints
}

// A mixer returns the same numbers in each run.
type mixer uint64

func (m *mixer) next() uint64 {
	*m += 0x9e3779b97f4a7c15
	z := uint64(*m)
	z = (z ^ z>>30) * 0xbf58476d1ce4e5b9
	z = (z ^ z>>27) * 0x94d049bb133111eb
	return z ^ z>>31
}

// int returns a valid Int with at most a number of digits, a third of which are 0 or 255.
func (m *mixer) int(limit int) api.Int {
	digits := make([]byte, m.next()%uint64(limit+1))
	for i := range digits {
		r := m.next()
		digits[i] = byte(r)
		switch (r >> 8) % 6 {
		case 0:
			digits[i] = 0
		case 1:
			digits[i] = 255
		}
	}
	digits = bytes.TrimLeft(digits, "\x00")
	return api.Int{Neg: len(digits) > 0 && m.next()%2 == 0, Digits: digits}
}

// A pair of Ints is an input of most functions.
type pair struct{ a, b api.Int }

// pairs returns all pairs of samples, and mixed ones.
func pairs() []pair {
	var list []pair
	for _, a := range samples() {
		for _, b := range samples() {
			list = append(list, pair{a, b})
		}
	}
	m := mixer(1)
	for i := range 6000 {
		list = append(list, pair{m.int(64), m.int(64 - i%64)})
	}
	return list
}

// expect compares a result with what an exact calculation gives: the value, or ErrFull if that has too many bits.
func expect(t *testing.T, name string, got api.Int, e api.Errno, want *big.Int) {
	t.Helper()
	if !fits(want) {
		if e != api.ErrFull || !empty(got) {
			t.Fatal(name, "is", show(got), e, "and not ErrFull")
		}
		return
	}
	if e != api.OK || !same(got, fromBig(want)) || !number.Valid(got) {
		t.Fatal(name, "is", show(got), e, "and not", want)
	}
}
