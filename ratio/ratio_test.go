package ratio_test

import (
	"math"
	"math/big"
	"testing"

	"bandplan/api"
	"bandplan/number"
	"bandplan/ratio"
)

// P2.1

func TestValid(t *testing.T) {
	for _, a := range samples() {
		if !ratio.Valid(a) {
			t.Error(show(a), "is valid")
		}
	}
	for _, a := range invalid() {
		if ratio.Valid(a) {
			t.Error(show(a), "is not valid")
		}
	}
	if !ratio.Valid(api.Ratio{Num: api.Int{Digits: []byte{}}, Den: number.Of(1)}) {
		t.Error("empty Digits are valid")
	}
	for n := -60; n <= 60; n++ {
		for d := -60; d <= 60; d++ {
			a := api.Ratio{Num: number.Of(n), Den: number.Of(d)}
			want := d > 0 && new(big.Int).GCD(nil, nil, big.NewInt(int64(max(n, -n))), big.NewInt(int64(d))).Int64() == 1
			if ratio.Valid(a) != want {
				t.Error(n, d)
			}
		}
	}
}

func TestZero(t *testing.T) {
	expect(t, "Zero", ratio.Zero(), api.OK, new(big.Rat))
}

func TestOf(t *testing.T) {
	ints := []int{0, 1, -1, 2, -2, 3, 4, 6, -6, 12, -18, 255, 256, 1000, -1 << 32, 1 << 62, -1 << 62, math.MaxInt, math.MaxInt - 1, -math.MaxInt, math.MinInt}
	for _, n := range ints {
		for _, d := range ints {
			got, e := ratio.Of(n, d)
			if d == 0 {
				expectError(t, "Of by 0", got, e, api.ErrArg)
				continue
			}
			expect(t, "Of", got, e, new(big.Rat).SetFrac(big.NewInt(int64(n)), big.NewInt(int64(d))))
		}
	}
	for _, c := range []struct {
		n, d int
		want api.Ratio
	}{{6, -4, parts("-3", "2")}, {0, -5, parts("0", "1")}, {-6, -4, parts("3", "2")}, {5, -1, parts("-5", "1")}, {math.MinInt, -1, parts("9223372036854775808", "1")}, {1, math.MinInt, parts("-1", "9223372036854775808")}} {
		if got, e := ratio.Of(c.n, c.d); e != api.OK || !same(got, c.want) {
			t.Error(c.n, c.d, show(got), e)
		}
	}
}

func TestFrom(t *testing.T) {
	for _, b := range []*big.Int{new(big.Int), big.NewInt(1), big.NewInt(-1), big.NewInt(-258), power(64, 0), power(511, 0), most(), negative(most())} {
		got, e := ratio.From(intOf(b))
		expect(t, "From "+b.String(), got, e, new(big.Rat).SetInt(b))
	}
	for _, bad := range invalidInts() {
		got, e := ratio.From(bad)
		expectError(t, "From", got, e, api.ErrArg)
	}
}

func TestMake(t *testing.T) {
	m := mixer{2}
	for i := range 4000 {
		common := m.int(i % 33)
		n, d := new(big.Int).Mul(common, m.int(31)), new(big.Int).Mul(common, m.int(31))
		got, e := ratio.Make(intOf(n), intOf(d))
		if d.Sign() == 0 {
			expectError(t, "Make by 0", got, e, api.ErrArg)
			continue
		}
		expect(t, "Make of "+n.String()+" and "+d.String(), got, e, new(big.Rat).SetFrac(n, d))
	}
	top := []*big.Int{most(), negative(most()), power(511, 0), negative(power(511, 0)), big.NewInt(1), big.NewInt(-1), power(256, 1)}
	for _, n := range append(top, new(big.Int)) {
		for _, d := range top {
			got, e := ratio.Make(intOf(n), intOf(d))
			expect(t, "Make of "+n.String()+" and "+d.String(), got, e, new(big.Rat).SetFrac(n, d))
		}
	}
}

func TestMakeErrors(t *testing.T) {
	good := []api.Int{{}, number.Of(1), number.Of(-7), intOf(most())}
	for _, a := range good {
		for _, zero := range []api.Int{{}, {Digits: []byte{}}} {
			got, e := ratio.Make(a, zero)
			expectError(t, "Make by 0", got, e, api.ErrArg)
		}
		for _, bad := range invalidInts() {
			got, e := ratio.Make(a, bad)
			expectError(t, "Make by an Int that is not valid", got, e, api.ErrArg)
			got, e = ratio.Make(bad, a)
			expectError(t, "Make of an Int that is not valid", got, e, api.ErrArg)
			got, e = ratio.Make(bad, bad)
			expectError(t, "Make of Ints that are not valid", got, e, api.ErrArg)
		}
	}
}

// P2.2

func checkOrder(t *testing.T, a, b api.Ratio) {
	t.Helper()
	want := ratOf(a).Cmp(ratOf(b))
	if got := ratio.Compare(a, b); got != want {
		t.Fatal("Compare", show(a), show(b), "is", got)
	}
	low, high := a, b
	if want > 0 {
		low, high = b, a
	}
	if got, e := ratio.Min(a, b); e != api.OK || !same(got, low) {
		t.Fatal("Min", show(a), show(b), "is", show(got), e)
	}
	if got, e := ratio.Max(a, b); e != api.OK || !same(got, high) {
		t.Fatal("Max", show(a), show(b), "is", show(got), e)
	}
}

func TestOrder(t *testing.T) {
	for _, p := range pairs() {
		checkOrder(t, p.a, p.b)
	}
	for n := -12; n <= 12; n++ {
		for d := 1; d <= 12; d++ {
			for m := -12; m <= 12; m++ {
				for c := 1; c <= 12; c++ {
					a, _ := ratio.Of(n, d)
					b, _ := ratio.Of(m, c)
					if got, want := ratio.Compare(a, b), sign(n*c-m*d); got != want {
						t.Fatal(n, d, m, c, got)
					}
				}
			}
		}
	}
}

func sign(n int) int { return min(max(n, -1), 1) }

// TestOrderOfLongFractions compares quotients of Fibonacci numbers, whose continued fractions are the longest ones and agree up to their ends, and neighbours whose Ints are as large as possible.
func TestOrderOfLongFractions(t *testing.T) {
	x, y := big.NewInt(1), big.NewInt(1)
	var list []api.Ratio
	for range 733 {
		x, y = y, new(big.Int).Add(x, y)
		list = append(list, over(y, x))
	}
	if !fits(y) || y.BitLen() < 509 {
		t.Fatal(y.BitLen())
	}
	for i := len(list) - 1; i >= 0; i -= 12 {
		a := list[i]
		for _, step := range []int{0, 1, 2, 3, 50, 731, 732} {
			b := list[(i+step)%len(list)]
			checkOrder(t, a, b)
			checkOrder(t, ratioOf(new(big.Rat).Neg(ratOf(a))), ratioOf(new(big.Rat).Neg(ratOf(b))))
		}
	}
	for d := int64(1); d < 40; d++ {
		checkOrder(t, over(power(512, -d), power(512, -d-1)), over(power(512, -d-1), power(512, -d-2)))
		checkOrder(t, over(power(512, -d-1), power(512, -d)), over(power(512, -d-2), power(512, -d-1)))
	}
}

func TestSign(t *testing.T) {
	for _, a := range samples() {
		if got, want := ratio.Sign(a), ratOf(a).Sign(); got != want {
			t.Error("Sign of", show(a), "is", got)
		}
	}
}

func TestOrderOfInvalidRatios(t *testing.T) {
	for _, bad := range invalid() {
		if ratio.Sign(bad) != 0 {
			t.Error("Sign of", show(bad))
		}
		for _, other := range append(invalid(), of("0"), of("1/2"), of("-5"), whole(most()), over(big.NewInt(-1), most())) {
			for _, p := range []pair{{bad, other}, {other, bad}} {
				if ratio.Compare(p.a, p.b) != 0 {
					t.Error("Compare", show(p.a), show(p.b))
				}
				low, e := ratio.Min(p.a, p.b)
				expectError(t, "Min "+show(p.a)+" "+show(p.b), low, e, api.ErrArg)
				high, e := ratio.Max(p.a, p.b)
				expectError(t, "Max "+show(p.a)+" "+show(p.b), high, e, api.ErrArg)
			}
		}
	}
}

// P2.4

func TestFloorAndCeil(t *testing.T) {
	list := samples()
	m := mixer{3}
	for i := range 4000 {
		list = append(list, m.ratio(1+i%64))
	}
	for _, a := range list {
		floor, rest := new(big.Int).DivMod(bigOf(a.Num), bigOf(a.Den), new(big.Int))
		ceil := new(big.Int).Set(floor)
		if rest.Sign() != 0 {
			ceil.Add(ceil, big.NewInt(1))
		}
		if got, e := ratio.Floor(a); e != api.OK || !sameInt(got, intOf(floor)) {
			t.Fatal("Floor of", show(a), "is", bigOf(got), e)
		}
		if got, e := ratio.Ceil(a); e != api.OK || !sameInt(got, intOf(ceil)) {
			t.Fatal("Ceil of", show(a), "is", bigOf(got), e)
		}
	}
}

func TestFloorAndCeilExamples(t *testing.T) {
	for _, c := range []struct {
		a           string
		floor, ceil int
	}{
		{"-3/2", -2, -1}, {"3/2", 1, 2}, {"2", 2, 2}, {"-2", -2, -2}, {"0", 0, 0}, {"1/9", 0, 1}, {"-1/9", -1, 0}, {"-8/9", -1, 0}, {"8/9", 0, 1},
	} {
		floor, e := ratio.Floor(of(c.a))
		ceil, f := ratio.Ceil(of(c.a))
		if e != api.OK || f != api.OK || !sameInt(floor, number.Of(c.floor)) || !sameInt(ceil, number.Of(c.ceil)) {
			t.Error(c.a, bigOf(floor), bigOf(ceil), e, f)
		}
	}
	for _, bad := range invalid() {
		floor, e := ratio.Floor(bad)
		ceil, f := ratio.Ceil(bad)
		if e != api.ErrArg || f != api.ErrArg || !sameInt(floor, api.Int{}) || !sameInt(ceil, api.Int{}) {
			t.Error(show(bad), bigOf(floor), bigOf(ceil), e, f)
		}
	}
}
