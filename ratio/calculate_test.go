package ratio_test

import (
	"math/big"
	"testing"

	"bandplan/api"
	"bandplan/ratio"
)

// A calculation is a function of the layer, with what the document says of it: the products and sums, the last two of which are those to be reduced.
type calculation struct {
	name  string
	call  func(a, b api.Ratio) (api.Ratio, api.Errno)
	steps func(n1, d1, n2, d2 *big.Int) []*big.Int
}

func mul(a, b *big.Int) *big.Int { return new(big.Int).Mul(a, b) }

func calculations() []calculation {
	return []calculation{
		{"Add", ratio.Add, func(n1, d1, n2, d2 *big.Int) []*big.Int {
			x, y := mul(n1, d2), mul(n2, d1)
			return []*big.Int{x, y, new(big.Int).Add(x, y), mul(d1, d2)}
		}},
		{"Sub", ratio.Sub, func(n1, d1, n2, d2 *big.Int) []*big.Int {
			x, y := mul(n1, d2), mul(n2, d1)
			return []*big.Int{x, y, new(big.Int).Sub(x, y), mul(d1, d2)}
		}},
		{"Mul", ratio.Mul, func(n1, d1, n2, d2 *big.Int) []*big.Int { return []*big.Int{mul(n1, n2), mul(d1, d2)} }},
		{"Quo", ratio.Quo, func(n1, d1, n2, d2 *big.Int) []*big.Int { return []*big.Int{mul(n1, d2), mul(d1, n2)} }},
	}
}

func (c calculation) check(t *testing.T, a, b api.Ratio) {
	t.Helper()
	name := c.name + " " + show(a) + " " + show(b)
	got, e := c.call(a, b)
	steps := c.steps(bigOf(a.Num), bigOf(a.Den), bigOf(b.Num), bigOf(b.Den))
	n, d := steps[len(steps)-2], steps[len(steps)-1]
	switch {
	case d.Sign() == 0:
		expectError(t, name, got, e, api.ErrArg)
	case !fits(steps...):
		expectError(t, name, got, e, api.ErrFull)
	default:
		expect(t, name, got, e, new(big.Rat).SetFrac(n, d))
	}
}

// P2.3

func TestCalculations(t *testing.T) {
	for _, c := range calculations() {
		for _, p := range pairs() {
			c.check(t, p.a, p.b)
		}
		for n := -9; n <= 9; n++ {
			for d := 1; d <= 9; d++ {
				a := over(big.NewInt(int64(n)), big.NewInt(int64(d)))
				for _, s := range []string{"0", "1", "-1", "1/2", "-2/3", "7/4", "-9", "5/6"} {
					c.check(t, a, of(s))
					c.check(t, of(s), a)
				}
			}
		}
	}
}

func TestCalculationExamples(t *testing.T) {
	for _, c := range []struct {
		call func(a, b api.Ratio) (api.Ratio, api.Errno)
		a, b string
		want api.Ratio
	}{
		{ratio.Add, "1/2", "1/3", parts("5", "6")}, {ratio.Sub, "1/2", "1/2", parts("0", "1")}, {ratio.Mul, "2/3", "3/4", parts("1", "2")}, {ratio.Quo, "1/2", "-1/4", parts("-2", "1")},
		{ratio.Quo, "-1/2", "-1/4", parts("2", "1")}, {ratio.Quo, "0", "-7/3", parts("0", "1")}, {ratio.Sub, "1/3", "1/2", parts("-1", "6")}, {ratio.Mul, "0", "-3/4", parts("0", "1")},
	} {
		if got, e := c.call(of(c.a), of(c.b)); e != api.OK || !same(got, c.want) {
			t.Error(c.a, c.b, show(got), e)
		}
	}
}

func TestNeg(t *testing.T) {
	for _, a := range samples() {
		got, e := ratio.Neg(a)
		expect(t, "Neg "+show(a), got, e, new(big.Rat).Neg(ratOf(a)))
	}
	for _, bad := range invalid() {
		got, e := ratio.Neg(bad)
		expectError(t, "Neg "+show(bad), got, e, api.ErrArg)
	}
}

func TestCalculationsWithInvalidRatios(t *testing.T) {
	for _, c := range calculations() {
		for _, bad := range invalid() {
			for _, other := range append(invalid(), of("0"), of("1/2"), whole(most()), over(big.NewInt(1), most())) {
				got, e := c.call(bad, other)
				expectError(t, c.name+" "+show(bad)+" "+show(other), got, e, api.ErrArg)
				got, e = c.call(other, bad)
				expectError(t, c.name+" "+show(other)+" "+show(bad), got, e, api.ErrArg)
			}
		}
	}
}

func TestQuoByZero(t *testing.T) {
	for _, a := range samples() {
		got, e := ratio.Quo(a, ratio.Zero())
		expectError(t, "Quo "+show(a)+" by 0", got, e, api.ErrArg)
	}
}

// TestFull has a case for each product and sum that is the only one to be too large, and cases whose results would fit after reducing.
func TestFull(t *testing.T) {
	one, two, three := big.NewInt(1), big.NewInt(2), big.NewInt(3)
	half, top, edge := power(511, 0), most(), power(256, 0)
	for _, c := range []struct {
		name string
		call func(a, b api.Ratio) (api.Ratio, api.Errno)
		a, b api.Ratio
	}{
		{"n1 d2 of Add", ratio.Add, whole(half), over(one, three)},
		{"n2 d1 of Add", ratio.Add, over(one, three), whole(half)},
		{"the sum of Add", ratio.Add, whole(top), whole(one)},
		{"the negative sum of Add", ratio.Add, whole(negative(top)), whole(big.NewInt(-1))},
		{"d1 d2 of Add", ratio.Add, over(one, half), over(one, three)},
		{"d1 d2 of Add, not reduced", ratio.Add, over(one, half), over(one, half)},
		{"d1 d2 of Add of 0", ratio.Add, over(one, edge), over(negative(one), edge)},
		{"n1 d2 of Sub", ratio.Sub, whole(half), over(one, three)},
		{"n2 d1 of Sub", ratio.Sub, over(one, three), whole(half)},
		{"the difference of Sub", ratio.Sub, whole(top), whole(big.NewInt(-1))},
		{"the negative difference of Sub", ratio.Sub, whole(negative(top)), whole(one)},
		{"n1 d2 and n2 d1 of Sub, not their difference", ratio.Sub, over(top, two), over(power(512, -3), two)},
		{"d1 d2 of Sub of equal Ratios", ratio.Sub, over(three, power(300, 0)), over(three, power(300, 0))},
		{"n1 n2 of Mul", ratio.Mul, whole(half), whole(two)},
		{"n1 n2 of Mul, not reduced", ratio.Mul, over(half, three), over(three, two)},
		{"d1 d2 of Mul", ratio.Mul, over(one, half), over(one, two)},
		{"d1 d2 of Mul, not reduced", ratio.Mul, over(two, three), over(three, half)},
		{"both of Mul", ratio.Mul, over(top, power(512, -2)), over(power(512, -2), top)},
		{"n1 d2 of Quo", ratio.Quo, whole(half), over(one, two)},
		{"n1 d2 of Quo, not reduced", ratio.Quo, over(half, three), over(two, three)},
		{"d1 n2 of Quo", ratio.Quo, over(one, half), whole(two)},
		{"both of Quo of equal Ratios", ratio.Quo, over(top, power(512, -2)), over(top, power(512, -2))},
	} {
		if !ratio.Valid(c.a) || !ratio.Valid(c.b) {
			t.Fatal(c.name)
		}
		got, e := c.call(c.a, c.b)
		expectError(t, c.name, got, e, api.ErrFull)
	}
}

func TestAlmostFull(t *testing.T) {
	one, two := big.NewInt(1), big.NewInt(2)
	half, top := power(511, 0), most()
	for _, c := range []struct {
		name string
		call func(a, b api.Ratio) (api.Ratio, api.Errno)
		a, b api.Ratio
		want api.Ratio
	}{
		{"Add up to the limit", ratio.Add, whole(power(512, -2)), whole(one), whole(top)},
		{"Add 0 to the limit", ratio.Add, ratio.Zero(), whole(top), whole(top)},
		{"Add 0 to the smallest one", ratio.Add, over(one, top), ratio.Zero(), over(one, top)},
		{"Sub to 0", ratio.Sub, whole(top), whole(top), ratio.Zero()},
		{"Sub down to the limit", ratio.Sub, whole(negative(power(512, -2))), whole(one), whole(negative(top))},
		{"Mul with a half", ratio.Mul, whole(half), over(one, two), whole(power(510, 0))},
		{"Mul to 1", ratio.Mul, whole(top), over(one, top), whole(one)},
		{"Mul with 0", ratio.Mul, whole(top), ratio.Zero(), ratio.Zero()},
		{"Quo to 1", ratio.Quo, whole(top), whole(top), whole(one)},
		{"Quo to -1", ratio.Quo, over(one, top), over(negative(one), top), whole(negative(one))},
	} {
		got, e := c.call(c.a, c.b)
		expect(t, c.name, got, e, ratOf(c.want))
	}
}
