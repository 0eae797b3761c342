package ratio_test

import (
	"bytes"
	"math/big"
	"slices"
	"testing"

	"bandplan/api"
	"bandplan/number"
	"bandplan/ratio"
)

// bigOf reads an Int by its definition.
func bigOf(a api.Int) *big.Int {
	b := new(big.Int).SetBytes(a.Digits)
	if a.Neg {
		return b.Neg(b)
	}
	return b
}

// intOf does not limit the number of digits.
func intOf(b *big.Int) api.Int { return api.Int{Neg: b.Sign() < 0, Digits: b.Bytes()} }

// ratOf returns the value of a valid Ratio.
func ratOf(a api.Ratio) *big.Rat { return new(big.Rat).SetFrac(bigOf(a.Num), bigOf(a.Den)) }

// ratioOf does not limit the number of digits.
func ratioOf(r *big.Rat) api.Ratio { return api.Ratio{Num: intOf(r.Num()), Den: intOf(r.Denom())} }

// parts does not reduce, and reads integers that may be written with big.Int's prefixes.
func parts(n, d string) api.Ratio { return api.Ratio{Num: parseInt(n), Den: parseInt(d)} }

func parseInt(s string) api.Int {
	b, ok := new(big.Int).SetString(s, 0)
	if !ok {
		panic(s)
	}
	return intOf(b)
}

// of returns a Ratio that is written as a big.Rat.
func of(s string) api.Ratio {
	r, ok := new(big.Rat).SetString(s)
	if !ok {
		panic(s)
	}
	return ratioOf(r)
}

// power returns 2^n + d.
func power(n uint, d int64) *big.Int {
	b := new(big.Int).Lsh(big.NewInt(1), n)
	return b.Add(b, big.NewInt(d))
}

// over returns the reduced Ratio of two integers.
func over(n, d *big.Int) api.Ratio { return ratioOf(new(big.Rat).SetFrac(n, d)) }

// whole returns an integer as a Ratio.
func whole(n *big.Int) api.Ratio { return over(n, big.NewInt(1)) }

// most is 2^512 - 1.
func most() *big.Int { return power(512, -1) }

func negative(b *big.Int) *big.Int { return new(big.Int).Neg(b) }

func fits(list ...*big.Int) bool {
	return !slices.ContainsFunc(list, func(b *big.Int) bool { return b.BitLen() > 512 })
}

func sameInt(a, b api.Int) bool { return a.Neg == b.Neg && bytes.Equal(a.Digits, b.Digits) }

func same(a, b api.Ratio) bool { return sameInt(a.Num, b.Num) && sameInt(a.Den, b.Den) }

func copyInt(a api.Int) api.Int { return api.Int{Neg: a.Neg, Digits: bytes.Clone(a.Digits)} }

func copyOf(a api.Ratio) api.Ratio { return api.Ratio{Num: copyInt(a.Num), Den: copyInt(a.Den)} }

// show names a Ratio, also one that is not valid, in messages.
func show(a api.Ratio) string { return bigOf(a.Num).String() + "/" + bigOf(a.Den).String() }

// invalidInts returns Ints that are not valid, each for a reason of its own.
func invalidInts() []api.Int {
	return []api.Int{
		{Neg: true},
		{Digits: []byte{0}},
		{Neg: true, Digits: []byte{0}},
		{Digits: []byte{0, 1}},
		{Digits: append([]byte{1}, make([]byte, 64)...)},
		{Neg: true, Digits: bytes.Repeat([]byte{255}, 65)},
		{Digits: append([]byte{0}, bytes.Repeat([]byte{255}, 64)...)},
		{Digits: bytes.Repeat([]byte{9}, 200)},
	}
}

// invalid returns Ratios that are not valid, each for its own reason or for several ones.
func invalid() []api.Ratio {
	list := []api.Ratio{
		{},
		parts("5", "0"), parts("-5", "0"), parts("1", "0"),
		parts("1", "-1"), parts("2", "-3"), parts("-2", "-3"), parts("0", "-1"),
		parts("2", "4"), parts("-2", "4"), parts("6", "3"), parts("5", "5"), parts("-5", "5"), parts("2", "2"),
		parts("0", "2"), parts("0", "5"),
		{Num: intOf(most()), Den: intOf(most())},
		{Num: intOf(power(511, 0)), Den: intOf(power(510, 0))},
		{Num: number.Of(3), Den: intOf(negative(most()))},
	}
	for _, bad := range invalidInts() {
		list = append(list, api.Ratio{Num: bad, Den: number.Of(1)}, api.Ratio{Num: number.Of(1), Den: bad}, api.Ratio{Num: bad, Den: bad}, api.Ratio{Den: bad}, api.Ratio{Num: bad})
	}
	return list
}

// samples returns valid Ratios of both signs: small ones, close ones, and ones whose Ints are around the borders of words and of the limit.
func samples() []api.Ratio {
	list := []api.Ratio{of("0")}
	for _, s := range []string{
		"1", "2", "7", "255", "256", "1/2", "1/3", "2/3", "3/4", "1/4", "3/2", "4/3", "1/256", "255/256", "3/7", "8/19", "13/31",
		"9223372036854775807", "9223372036854775808", "1/9223372036854775808", "18446744073709551615/18446744073709551616", "18446744073709551616/18446744073709551615",
		"123456789012345678901234567890/98765432109876543211", "355/113", "3126535/995207",
	} {
		list = append(list, of(s))
	}
	one, top := big.NewInt(1), most()
	for _, n := range []uint{63, 64, 170, 255, 256, 257, 511} {
		list = append(list, whole(power(n, 0)), whole(power(n, -1)), over(one, power(n, 0)), over(power(n, 1), power(n, 0)), over(power(n, -1), power(n, 1)))
	}
	list = append(list, whole(top), over(one, top), over(top, power(512, -2)), over(power(512, -2), top), over(top, power(256, 0)), over(power(511, 0), top), over(top, big.NewInt(2)))
	for _, a := range list[1:] {
		list = append(list, ratioOf(new(big.Rat).Neg(ratOf(a))))
	}
	return list
}

// A mixer returns the same numbers in each run.
type mixer struct{ state uint64 }

// below returns a number from 0 to n - 1: the upper half of a state of Knuth's MMIX generator.
func (m *mixer) below(n int) int {
	m.state = m.state*6364136223846793005 + 1442695040888963407
	return int(m.state>>33) % n
}

// int returns an Int with at most a number of digits.
func (m *mixer) int(limit int) *big.Int {
	digits := make([]byte, m.below(limit+1))
	for i := range digits {
		digits[i] = byte(m.below(256))
	}
	b := new(big.Int).SetBytes(digits)
	if m.below(2) == 0 {
		return b.Neg(b)
	}
	return b
}

// ratio returns a valid Ratio whose Ints have at most a number of digits each.
func (m *mixer) ratio(limit int) api.Ratio {
	d := new(big.Int).Abs(m.int(limit))
	if d.Sign() == 0 {
		d.SetInt64(1)
	}
	return over(m.int(limit), d)
}

type pair struct{ a, b api.Ratio }

// pairs returns all pairs of samples, and mixed ones of which some calculations fit and others do not.
func pairs() []pair {
	var list []pair
	for _, a := range samples() {
		for _, b := range samples() {
			list = append(list, pair{a, b})
		}
	}
	m := mixer{1}
	for i := range 3000 {
		list = append(list, pair{m.ratio(1 + i%34), m.ratio(1 + i%34)}, pair{m.ratio(2 + i%63), m.ratio(64 - i%63)})
	}
	return list
}

// expect compares a result with the exact one.
func expect(t *testing.T, name string, got api.Ratio, e api.Errno, want *big.Rat) {
	t.Helper()
	if e != api.OK || !same(got, ratioOf(want)) || !ratio.Valid(got) {
		t.Fatal(name, "is", show(got), e, "and not", want)
	}
}

// expectError holds that every other result is its zero value.
func expectError(t *testing.T, name string, got api.Ratio, e, want api.Errno) {
	t.Helper()
	if e != want || !same(got, api.Ratio{}) {
		t.Fatal(name, "is", show(got), e, "and not the error", want)
	}
}
