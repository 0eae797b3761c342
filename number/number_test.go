package number_test

import (
	"math"
	"math/big"
	"strconv"
	"strings"
	"testing"

	"bandplan/api"
	"bandplan/number"
)

func TestLimits(t *testing.T) {
	if number.MaxBits != 512 || number.MaxDigits != 64 {
		t.Error(number.MaxBits, number.MaxDigits)
	}
}

// P1.1

func TestValid(t *testing.T) {
	for _, a := range invalid() {
		if number.Valid(a) {
			t.Error(show(a), "is not valid")
		}
	}
	for _, a := range append(samples(), api.Int{Digits: []byte{}}, api.Int{Neg: true, Digits: []byte{1, 0}}, most(), least()) {
		if !number.Valid(a) {
			t.Error(show(a), "is valid")
		}
	}
	for n := range 130 {
		a := api.Int{Digits: append([]byte{1}, make([]byte, n)...)}
		if number.Valid(a) != (n < 64) {
			t.Error(show(a))
		}
	}
}

// ints returns ints around the borders of bytes, words and ints.
func ints() []int {
	list := []int{0, math.MaxInt, math.MinInt, math.MinInt + 1, math.MaxInt - 1}
	for shift := range 63 {
		for d := -2; d <= 2; d++ {
			list = append(list, 1<<shift+d, -(1<<shift + d))
		}
	}
	return list
}

func TestOfAndValue(t *testing.T) {
	for _, n := range ints() {
		a := number.Of(n)
		if !number.Valid(a) || !same(a, fromBig(big.NewInt(int64(n)))) {
			t.Error("Of", n, "is", show(a))
		}
		if v, e := number.Value(fromBig(big.NewInt(int64(n)))); v != n || e != api.OK {
			t.Error("Value of", n, "is", v, e)
		}
	}
	if a := number.Of(-258); !a.Neg || len(a.Digits) != 2 || a.Digits[0] != 1 || a.Digits[1] != 2 {
		t.Error(a)
	}
}

func TestValueErrors(t *testing.T) {
	for _, a := range invalid() {
		if v, e := number.Value(a); v != 0 || e != api.ErrArg {
			t.Error("Value of", show(a), "is", v, e)
		}
	}
	for _, a := range append(samples(), fromBig(near(64, 5)), fromBig(near(72, 0)), fromBig(near(128, 1)), of("9223372036854775808"), of("-9223372036854775809")) {
		v, e := number.Value(a)
		if b := toBig(a); b.IsInt64() {
			if v != int(b.Int64()) || e != api.OK {
				t.Error("Value of", b, "is", v, e)
			}
		} else if v != 0 || e != api.ErrRange {
			t.Error("Value of", b, "is", v, e)
		}
	}
}

// P1.2

func TestCompareAndSign(t *testing.T) {
	for _, p := range pairs() {
		if got, want := number.Compare(p.a, p.b), toBig(p.a).Cmp(toBig(p.b)); got != want {
			t.Fatal("Compare", show(p.a), show(p.b), "is", got)
		}
	}
	for _, a := range samples() {
		if got, want := number.Sign(a), toBig(a).Sign(); got != want || number.Compare(a, copyOf(a)) != 0 {
			t.Error("Sign of", show(a), "is", got)
		}
	}
}

func TestCompareInvalid(t *testing.T) {
	for _, a := range invalid() {
		if number.Sign(a) != 0 {
			t.Error("Sign of", show(a))
		}
		for _, b := range []api.Int{{}, number.Of(5), number.Of(-5), most(), least(), a, {Neg: true}} {
			if number.Compare(a, b) != 0 || number.Compare(b, a) != 0 {
				t.Error("Compare", show(a), show(b))
			}
		}
	}
}

// P1.3

func TestNeg(t *testing.T) {
	for _, a := range append(samples(), api.Int{Digits: []byte{}}) {
		got, e := number.Neg(a)
		expect(t, "Neg "+show(a), got, e, new(big.Int).Neg(toBig(a)))
	}
}

func TestSums(t *testing.T) {
	for _, p := range pairs() {
		name := show(p.a) + " and " + show(p.b)
		sum, e := number.Add(p.a, p.b)
		expect(t, "Add "+name, sum, e, new(big.Int).Add(toBig(p.a), toBig(p.b)))
		difference, e := number.Sub(p.a, p.b)
		expect(t, "Sub "+name, difference, e, new(big.Int).Sub(toBig(p.a), toBig(p.b)))
		product, e := number.Mul(p.a, p.b)
		expect(t, "Mul "+name, product, e, new(big.Int).Mul(toBig(p.a), toBig(p.b)))
	}
}

func TestProductsAroundTheLimit(t *testing.T) {
	m := mixer(2)
	for i := range 4000 {
		a, b := m.int(1+i%64), m.int(65-(1+i%64))
		product, e := number.Mul(a, b)
		expect(t, "Mul "+show(a)+" and "+show(b), product, e, new(big.Int).Mul(toBig(a), toBig(b)))
	}
	for n := range uint(512) {
		a, b := fromBig(near(n, 0)), fromBig(near(511-n, 0))
		product, e := number.Mul(a, b)
		expect(t, "Mul "+show(a)+" and "+show(b), product, e, near(511, 0))
		product, e = number.Mul(a, fromBig(near(512-max(n, 1), 0)))
		expect(t, "Mul "+show(a)+" and its complement", product, e, near(512-max(n, 1)+n, 0))
	}
}

func TestSumsAtTheLimit(t *testing.T) {
	one, minus := number.Of(1), number.Of(-1)
	full := map[string]func() (api.Int, api.Errno){
		"most + 1":      func() (api.Int, api.Errno) { return number.Add(most(), one) },
		"1 + most":      func() (api.Int, api.Errno) { return number.Add(one, most()) },
		"least + -1":    func() (api.Int, api.Errno) { return number.Add(least(), minus) },
		"most + most":   func() (api.Int, api.Errno) { return number.Add(most(), most()) },
		"least - 1":     func() (api.Int, api.Errno) { return number.Sub(least(), one) },
		"most - -1":     func() (api.Int, api.Errno) { return number.Sub(most(), minus) },
		"1 - least":     func() (api.Int, api.Errno) { return number.Sub(one, least()) },
		"most - least":  func() (api.Int, api.Errno) { return number.Sub(most(), least()) },
		"most 2":        func() (api.Int, api.Errno) { return number.Mul(most(), number.Of(2)) },
		"-2 most":       func() (api.Int, api.Errno) { return number.Mul(number.Of(-2), most()) },
		"least least":   func() (api.Int, api.Errno) { return number.Mul(least(), least()) },
		"2^256 2^256":   func() (api.Int, api.Errno) { return number.Mul(fromBig(near(256, 0)), fromBig(near(256, 0))) },
		"-2^504 256":    func() (api.Int, api.Errno) { return number.Mul(number.Of(256), fromBig(near(504, 0))) },
		"2^448 2^64":    func() (api.Int, api.Errno) { return number.Mul(fromBig(near(448, 0)), fromBig(near(64, 0))) },
		"2^511 + 2^511": func() (api.Int, api.Errno) { return number.Add(fromBig(near(511, 0)), fromBig(near(511, 0))) },
	}
	for name, call := range full {
		if got, e := call(); e != api.ErrFull || !empty(got) {
			t.Error(name, "is", show(got), e)
		}
	}
	for _, a := range []api.Int{most(), least()} {
		opposite, e := number.Neg(a)
		if e != api.OK || !same(opposite, api.Int{Neg: !a.Neg, Digits: a.Digits}) {
			t.Error("Neg", show(opposite), e)
		}
		if sum, e := number.Add(a, opposite); e != api.OK || !empty(sum) {
			t.Error("Add", show(sum), e)
		}
		if zero, e := number.Sub(a, a); e != api.OK || !empty(zero) {
			t.Error("Sub", show(zero), e)
		}
		if product, e := number.Mul(a, minus); e != api.OK || !same(product, opposite) {
			t.Error("Mul", show(product), e)
		}
	}
}

// P1.4

func TestDivMod(t *testing.T) {
	for _, p := range pairs() {
		q, r, e := number.DivMod(p.a, p.b)
		if len(p.b.Digits) == 0 {
			if e != api.ErrArg || !empty(q) || !empty(r) {
				t.Fatal("DivMod", show(p.a), "by 0 is", show(q), show(r), e)
			}
			continue
		}
		quotient, rest := floored(toBig(p.a), toBig(p.b))
		expect(t, "the quotient of "+show(p.a)+" and "+show(p.b), q, e, quotient)
		expect(t, "the remainder of "+show(p.a)+" and "+show(p.b), r, e, rest)
	}
}

// floored returns a quotient, rounded down, and its remainder: big.Int's own divisions round otherwise.
func floored(a, b *big.Int) (*big.Int, *big.Int) {
	q, r := new(big.Int).QuoRem(a, b, new(big.Int))
	if r.Sign() != 0 && r.Sign() != b.Sign() {
		q.Sub(q, big.NewInt(1))
		r.Add(r, b)
	}
	return q, r
}

// TestDivModBySpecialWords divides numbers whose words are 0, 1, 2^63 or all ones, or next to these, by such numbers.
func TestDivModBySpecialWords(t *testing.T) {
	m := mixer(3)
	words := []uint64{0, 0, 1, 1 << 63, 1<<63 - 1, 1<<63 + 1, math.MaxUint64, math.MaxUint64, math.MaxUint64 - 1, 1 << 32}
	build := func(n int) *big.Int {
		b := new(big.Int)
		for range n {
			b.Lsh(b, 64)
			b.Or(b, new(big.Int).SetUint64(words[m.next()%uint64(len(words))]))
		}
		return b
	}
	for i := range 20000 {
		a, b := build(1+i%8), build(1+int(m.next()%8))
		if b.Sign() == 0 {
			continue
		}
		if i%3 == 0 {
			// A dividend just below a multiple of the divisor is where an estimate is too large.
			a.Div(a, b).Mul(a, b).Sub(a, big.NewInt(1)).Abs(a)
		}
		quotient, rest := floored(a, b)
		q, r, e := number.DivMod(fromBig(a), fromBig(b))
		expect(t, "the quotient of "+a.String()+" and "+b.String(), q, e, quotient)
		expect(t, "the remainder of "+a.String()+" and "+b.String(), r, e, rest)
	}
}

func TestDivModSigns(t *testing.T) {
	for _, c := range []struct{ a, b, quotient, remainder int }{
		{-7, 2, -4, 1}, {7, -2, -4, -1}, {-7, -2, 3, -1}, {7, 2, 3, 1},
		{-8, 2, -4, 0}, {8, -2, -4, 0}, {-8, -2, 4, 0}, {0, 5, 0, 0}, {0, -5, 0, 0},
		{1, 5, 0, 1}, {-1, 5, -1, 4}, {1, -5, -1, -4}, {-1, -5, 0, -1}, {-5, 1, -5, 0}, {5, -1, -5, 0},
	} {
		q, r, e := number.DivMod(number.Of(c.a), number.Of(c.b))
		if e != api.OK || !same(q, number.Of(c.quotient)) || !same(r, number.Of(c.remainder)) {
			t.Error(c, show(q), show(r), e)
		}
	}
}

func TestGCD(t *testing.T) {
	for _, p := range pairs() {
		got, e := number.GCD(p.a, p.b)
		expect(t, "GCD "+show(p.a)+" and "+show(p.b), got, e, new(big.Int).GCD(nil, nil, new(big.Int).Abs(toBig(p.a)), new(big.Int).Abs(toBig(p.b))))
	}
	m := mixer(4)
	for range 2000 {
		common := toBig(m.int(30))
		a, b := new(big.Int).Mul(common, toBig(m.int(34))), new(big.Int).Mul(common, toBig(m.int(34)))
		got, e := number.GCD(fromBig(a), fromBig(b))
		expect(t, "GCD "+a.String()+" and "+b.String(), got, e, new(big.Int).GCD(nil, nil, a.Abs(a), b.Abs(b)))
	}
}

func TestGCDOfSpecialInts(t *testing.T) {
	for _, c := range []struct{ a, b, want int }{
		{-12, 18, 6}, {12, -18, 6}, {-12, -18, 6}, {0, 0, 0}, {0, -5, 5}, {-5, 0, 5}, {1, -1, 1}, {17, 5, 1},
	} {
		if got, e := number.GCD(number.Of(c.a), number.Of(c.b)); e != api.OK || !same(got, number.Of(c.want)) {
			t.Error(c, show(got), e)
		}
	}
	if got, e := number.GCD(least(), api.Int{}); e != api.OK || !same(got, most()) {
		t.Error(show(got), e)
	}
	// The Fibonacci numbers take the most steps of Euclid's algorithm.
	a, b := new(big.Int), big.NewInt(1)
	for range 730 {
		a, b = b, new(big.Int).Add(a, b)
	}
	if got, e := number.GCD(fromBig(b), fromBig(a)); e != api.OK || !same(got, number.Of(1)) || !fits(b) {
		t.Error(show(got), e, b.BitLen())
	}
}

// P1.5

func TestPower(t *testing.T) {
	m := mixer(5)
	bases := append(samples(), number.Of(-2), number.Of(-3), number.Of(-10))
	for range 200 {
		bases = append(bases, m.int(8))
	}
	for _, a := range bases {
		want := big.NewInt(1)
		for n := range 600 {
			got, e := number.Power(a, n)
			expect(t, "Power "+show(a)+" by "+strconv.Itoa(n), got, e, want)
			if !fits(want) {
				break
			}
			want = new(big.Int).Mul(want, toBig(a))
		}
	}
}

func TestPowerByHugeExponents(t *testing.T) {
	for _, n := range []int{511, 512, 513, 1 << 16, 1<<16 + 1, 1 << 32, 1<<32 + 1, 1 << 62, 1<<62 + 1, math.MaxInt - 1, math.MaxInt} {
		for _, a := range []int{0, 1, -1} {
			want := a
			if n%2 == 0 {
				want = a * a
			}
			if got, e := number.Power(number.Of(a), n); e != api.OK || !same(got, number.Of(want)) {
				t.Error(a, n, show(got), e)
			}
		}
		for _, a := range []api.Int{number.Of(2), number.Of(-2), number.Of(10), fromBig(near(64, 0)), fromBig(near(128, 0)), fromBig(near(511, 0)), most(), least()} {
			got, e := number.Power(a, n)
			if n == 511 && len(a.Digits) == 1 && a.Digits[0] == 2 {
				expect(t, "Power", got, e, new(big.Int).Exp(toBig(a), big.NewInt(511), nil))
			} else if e != api.ErrFull || !empty(got) {
				t.Error(show(a), n, show(got), e)
			}
		}
	}
}

func TestPowerByNegativeExponents(t *testing.T) {
	for _, n := range []int{-1, -2, -512, math.MinInt + 1, math.MinInt} {
		for _, a := range samples() {
			if got, e := number.Power(a, n); e != api.ErrArg || !empty(got) {
				t.Error(show(a), n, show(got), e)
			}
		}
	}
}

// P1.6

func TestTextAndDigits10(t *testing.T) {
	m := mixer(6)
	list := samples()
	for i := range 2000 {
		list = append(list, m.int(i%65))
	}
	power := big.NewInt(1)
	for range 155 {
		list = append(list, fromBig(power), fromBig(new(big.Int).Sub(power, big.NewInt(1))), fromBig(new(big.Int).Neg(power)))
		power = new(big.Int).Mul(power, big.NewInt(10))
	}
	for _, a := range list {
		want := toBig(a).String()
		if got := number.Text(a); got != want {
			t.Fatal("Text of", want, "is", got)
		}
		if got := number.Digits10(a); got != len(strings.TrimPrefix(want, "-")) {
			t.Fatal("Digits10 of", want, "is", got)
		}
		got, e := number.Parse(want)
		expect(t, "Parse of "+want, got, e, toBig(a))
	}
	for _, a := range invalid() {
		if number.Text(a) != "" || number.Digits10(a) != 0 {
			t.Error(show(a), number.Text(a), number.Digits10(a))
		}
	}
	if number.Digits10(api.Int{}) != 1 || number.Text(api.Int{}) != "0" || number.Digits10(number.Of(-100)) != 3 || number.Text(number.Of(-100)) != "-100" {
		t.Error("0 and -100")
	}
}

func TestParseFormat(t *testing.T) {
	nines := strings.Repeat("9", 400)
	for _, s := range []string{
		"", "-", "--", "+", "-0", "00", "-00", "000", "007", "-007", "+1", "+0", "--1", "-+1", "1-", "1-1", " 1", "1 ", "- 1", "\n1", "1\n", "1\x00", "\x00",
		"a", "1a", "a1", "0x10", "0b1", "0o7", "1_000", "1,000", "1.0", "1.", ".1", "1e3", "1/2", "/", ":", "1:", "1/", "\u0661", "\uff11", "\u22121", "12\xff", "\xb2",
		"0" + nines, "-0" + nines, nines + "x", "-" + nines + " ", "x" + nines, nines + "-", "-" + nines + "-", nines + ".",
	} {
		if a, e := number.Parse(s); e != api.ErrFormat || !empty(a) {
			t.Errorf("Parse of %q is %s %d", s, show(a), e)
		}
	}
	for c := range 256 {
		for _, s := range []string{string([]byte{byte(c)}), "1" + string([]byte{byte(c)}), string([]byte{byte(c)}) + "1"} {
			_, e := number.Parse(s)
			digit := c >= '0' && c <= '9'
			want := digit && (len(s) == 1 || s[0] != '0') || s == "-1"
			if (e == api.OK) != want || !want && e != api.ErrFormat {
				t.Errorf("Parse of %q: %d", s, e)
			}
		}
	}
}

func TestParseFull(t *testing.T) {
	limit := near(512, 0).String()
	for _, s := range []string{limit, near(512, 1).String(), limit + "0", "1" + strings.Repeat("0", 155), strings.Repeat("9", 155), "2" + strings.Repeat("0", 154), strings.Repeat("9", 156), strings.Repeat("7", 1<<20), near(576, 0).String(), near(1024, 5).String()} {
		for _, sign := range []string{"", "-"} {
			if a, e := number.Parse(sign + s); e != api.ErrFull || !empty(a) {
				t.Error(sign, s[:20], len(s), show(a), e)
			}
		}
	}
	if a, e := number.Parse(near(512, -1).String()); e != api.OK || !same(a, most()) {
		t.Error(show(a), e)
	}
	if a, e := number.Parse("-" + near(512, -1).String()); e != api.OK || !same(a, least()) {
		t.Error(show(a), e)
	}
	if a, e := number.Parse("0"); e != api.OK || !empty(a) {
		t.Error(show(a), e)
	}
	if a, e := number.Parse("12"); e != api.OK || !same(a, number.Of(12)) {
		t.Error(show(a), e)
	}
}
