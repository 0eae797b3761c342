package ratio_test

import (
	"bytes"
	"slices"
	"testing"

	"bandplan/api"
	"bandplan/number"
	"bandplan/ratio"
)

// P2.6

func TestConsequences(t *testing.T) {
	for _, p := range pairs() {
		checkInverses(t, p.a, p.b)
		x, e := ratio.Add(p.a, p.b)
		if y, f := ratio.Add(p.b, p.a); e != f || !same(x, y) {
			t.Fatal("Add is not commutative", show(p.a), show(p.b))
		}
		x, e = ratio.Mul(p.a, p.b)
		if y, f := ratio.Mul(p.b, p.a); e != f || !same(x, y) {
			t.Fatal("Mul is not commutative", show(p.a), show(p.b))
		}
		if d, e := ratio.Sub(p.a, p.b); e == api.OK && ratio.Sign(d) != ratio.Compare(p.a, p.b) {
			t.Fatal("the sign of the difference", show(p.a), show(p.b))
		}
		if ratio.Compare(p.a, p.b) != -ratio.Compare(p.b, p.a) || (ratio.Compare(p.a, p.b) == 0) != same(p.a, p.b) {
			t.Fatal("Compare", show(p.a), show(p.b))
		}
		if a, e := ratio.Parse(ratio.Text(p.a)); e != api.OK || !same(a, p.a) {
			t.Fatal("Parse after Text", show(p.a))
		}
	}
}

// checkInverses takes a sum and a product back. The way back may be too large.
func checkInverses(t *testing.T, a, b api.Ratio) {
	t.Helper()
	if sum, e := ratio.Add(a, b); e == api.OK {
		if back, e := ratio.Sub(sum, b); e != api.ErrFull && (e != api.OK || !same(back, a)) {
			t.Fatal("Sub after Add", show(a), show(b), show(back), e)
		}
	}
	if product, e := ratio.Mul(a, b); e == api.OK && ratio.Sign(b) != 0 {
		if back, e := ratio.Quo(product, b); e != api.ErrFull && (e != api.OK || !same(back, a)) {
			t.Fatal("Quo after Mul", show(a), show(b), show(back), e)
		}
	}
}

// TestInversesOfSmallRatios has no calculation that is too large.
func TestInversesOfSmallRatios(t *testing.T) {
	m := mixer{5}
	for range 2000 {
		a, b := m.ratio(16), m.ratio(16)
		sum, e := ratio.Add(a, b)
		back, f := ratio.Sub(sum, b)
		if e != api.OK || f != api.OK || !same(back, a) {
			t.Fatal("Sub after Add", show(a), show(b), e, f)
		}
		if ratio.Sign(b) == 0 {
			continue
		}
		product, e := ratio.Mul(a, b)
		back, f = ratio.Quo(product, b)
		if e != api.OK || f != api.OK || !same(back, a) {
			t.Fatal("Quo after Mul", show(a), show(b), e, f)
		}
	}
}

// TestTotalOrder sorts with Compare, after which every earlier Ratio is less than every later one.
func TestTotalOrder(t *testing.T) {
	list := samples()
	slices.SortFunc(list, ratio.Compare)
	for i, a := range list {
		for k, b := range list {
			want := sign(i - k)
			if same(a, b) {
				want = 0
			}
			if ratio.Compare(a, b) != want {
				t.Fatal(show(a), show(b))
			}
		}
	}
}

// calls returns the functions that return Ratios or Ints, of two Ratios each; those of one Int use the numerator of the first one.
func calls() map[string]func(a, b api.Ratio) ([]api.Int, api.Errno) {
	ints := func(r api.Ratio, e api.Errno) ([]api.Int, api.Errno) { return []api.Int{r.Num, r.Den}, e }
	one := func(n api.Int, e api.Errno) ([]api.Int, api.Errno) { return []api.Int{n}, e }
	return map[string]func(a, b api.Ratio) ([]api.Int, api.Errno){
		"Zero":  func(a, b api.Ratio) ([]api.Int, api.Errno) { return ints(ratio.Zero(), api.OK) },
		"Of":    func(a, b api.Ratio) ([]api.Int, api.Errno) { return ints(ratio.Of(-6, 4)) },
		"Parse": func(a, b api.Ratio) ([]api.Int, api.Errno) { return ints(ratio.Parse("-300/7")) },
		"From":  func(a, b api.Ratio) ([]api.Int, api.Errno) { return ints(ratio.From(a.Num)) },
		"Make":  func(a, b api.Ratio) ([]api.Int, api.Errno) { return ints(ratio.Make(a.Num, b.Den)) },
		"Neg":   func(a, b api.Ratio) ([]api.Int, api.Errno) { return ints(ratio.Neg(a)) },
		"Add":   func(a, b api.Ratio) ([]api.Int, api.Errno) { return ints(ratio.Add(a, b)) },
		"Sub":   func(a, b api.Ratio) ([]api.Int, api.Errno) { return ints(ratio.Sub(a, b)) },
		"Mul":   func(a, b api.Ratio) ([]api.Int, api.Errno) { return ints(ratio.Mul(a, b)) },
		"Quo":   func(a, b api.Ratio) ([]api.Int, api.Errno) { return ints(ratio.Quo(a, b)) },
		"Min":   func(a, b api.Ratio) ([]api.Int, api.Errno) { return ints(ratio.Min(a, b)) },
		"Max":   func(a, b api.Ratio) ([]api.Int, api.Errno) { return ints(ratio.Max(a, b)) },
		"Floor": func(a, b api.Ratio) ([]api.Int, api.Errno) { return one(ratio.Floor(a)) },
		"Ceil":  func(a, b api.Ratio) ([]api.Int, api.Errno) { return one(ratio.Ceil(a)) },
	}
}

// roomy returns a Ratio whose digits are cut out of longer slices.
func roomy(a api.Ratio) api.Ratio {
	return api.Ratio{Num: roomyInt(a.Num), Den: roomyInt(a.Den)}
}

func roomyInt(a api.Int) api.Int {
	all := append(bytes.Clone(a.Digits), bytes.Repeat([]byte{88}, 70)...)
	return api.Int{Neg: a.Neg, Digits: all[:len(a.Digits)]}
}

// memory returns a copy of all bytes that some Ints can reach.
func memory(list ...api.Int) []byte {
	var all []byte
	for _, a := range list {
		all = append(all, a.Digits[:cap(a.Digits)]...)
	}
	return all
}

// spoil changes all bytes that some Ints can reach.
func spoil(list ...api.Int) {
	for _, a := range list {
		reach := a.Digits[:cap(a.Digits)]
		for i := range reach {
			reach[i] ^= 0xa5
		}
	}
}

// TestMemory holds the rules on memory: no call changes its arguments or what lies behind them, and no result shares memory with these, with another one, or with that of another call.
func TestMemory(t *testing.T) {
	values := []api.Ratio{of("0"), of("1"), of("-1"), of("1/2"), of("-7/3"), of("300/7"), of("5/65536"), whole(most()), over(power(300, 1), power(200, 0)), over(power(64, 0), most())}
	for name, call := range calls() {
		for _, x := range values {
			for _, y := range values {
				checkMemory(t, name+" of "+show(x)+" and "+show(y), call, x, y)
			}
		}
	}
}

func checkMemory(t *testing.T, name string, call func(a, b api.Ratio) ([]api.Int, api.Errno), x, y api.Ratio) {
	t.Helper()
	a, b := roomy(x), roomy(y)
	before := memory(a.Num, a.Den, b.Num, b.Den)
	first, _ := call(a, b)
	second, _ := call(a, b)
	var want []api.Int
	for _, r := range second {
		want = append(want, copyInt(r))
	}
	for i, r := range first {
		spoil(r)
		if later := first[i+1:]; !slices.EqualFunc(later, want[i+1:], sameInt) {
			t.Fatal(name, "returns the same memory twice")
		}
	}
	if !bytes.Equal(before, memory(a.Num, a.Den, b.Num, b.Den)) || a.Num.Neg != x.Num.Neg || b.Num.Neg != y.Num.Neg {
		t.Fatal(name, "changes an argument, or returns its memory")
	}
	spoil(a.Num, a.Den, b.Num, b.Den)
	if !slices.EqualFunc(second, want, sameInt) {
		t.Fatal(name, "shares memory with an argument or an earlier result")
	}
}

func TestReadersChangeNothing(t *testing.T) {
	for _, x := range append(samples(), invalid()...) {
		a := roomy(x)
		before := memory(a.Num, a.Den)
		ratio.Valid(a)
		ratio.Compare(a, a)
		ratio.Sign(a)
		ratio.Text(a)
		if !bytes.Equal(before, memory(a.Num, a.Den)) {
			t.Fatal(show(x), "is changed")
		}
	}
}

// TestEmptyAndNil holds the rule that both are equivalent.
func TestEmptyAndNil(t *testing.T) {
	null := api.Ratio{Den: number.Of(1)}
	empty := api.Ratio{Num: api.Int{Digits: []byte{}}, Den: number.Of(1)}
	for name, call := range calls() {
		for _, other := range []api.Ratio{null, of("2/3"), {}} {
			for _, p := range [][2]pair{{{empty, other}, {null, other}}, {{other, empty}, {other, null}}} {
				got, e := call(p[0].a, p[0].b)
				want, f := call(p[1].a, p[1].b)
				if e != f || !slices.EqualFunc(got, want, sameInt) {
					t.Error(name, show(other), e, f)
				}
			}
		}
	}
	if !ratio.Valid(empty) || ratio.Sign(empty) != 0 || ratio.Text(empty) != "0" || ratio.Compare(empty, null) != 0 || ratio.Compare(empty, of("-1/2")) != 1 {
		t.Error("a Ratio with empty Digits")
	}
	blank := api.Ratio{Num: api.Int{Digits: []byte{}}, Den: api.Int{Digits: []byte{}}}
	if _, e := ratio.Neg(blank); e != api.ErrArg || ratio.Valid(blank) {
		t.Error("the zero value with empty Digits", e)
	}
}
