package number_test

import (
	"bytes"
	"strconv"
	"testing"

	"bandplan/api"
	"bandplan/number"
)

// P1.7

func TestConsequences(t *testing.T) {
	for _, p := range pairs() {
		name := show(p.a) + " and " + show(p.b)
		x, e := number.Add(p.a, p.b)
		y, f := number.Add(p.b, p.a)
		if !same(x, y) || e != f {
			t.Fatal("Add", name)
		}
		if back, f := number.Sub(x, p.b); e == api.OK && (f != api.OK || !same(back, p.a)) {
			t.Fatal("Sub after Add", name)
		}
		x, e = number.Mul(p.a, p.b)
		y, f = number.Mul(p.b, p.a)
		if !same(x, y) || e != f {
			t.Fatal("Mul", name)
		}
		checkDivision(t, p.a, p.b)
		if a, e := number.Parse(number.Text(p.a)); e != api.OK || !same(a, p.a) {
			t.Fatal("Parse after Text", name)
		}
	}
}

// checkDivision recalculates a dividend, and divides by a GCD.
func checkDivision(t *testing.T, a, b api.Int) {
	t.Helper()
	if number.Sign(b) == 0 {
		return
	}
	q, r, e := number.DivMod(a, b)
	product, f := number.Mul(q, b)
	sum, g := number.Add(product, r)
	// For a quotient that is rounded down, the product may be just beyond the limit.
	if e != api.OK || f == api.OK && (g != api.OK || !same(sum, a)) || f != api.OK && number.Sign(r) == 0 {
		t.Fatal("DivMod", show(a), show(b), e, f, g)
	}
	if number.Sign(r) != 0 && number.Sign(r) != number.Sign(b) {
		t.Fatal("the sign of the remainder", show(a), show(b))
	}
	d, e := number.GCD(a, b)
	for _, c := range []api.Int{a, b} {
		if _, rest, f := number.DivMod(c, d); e != api.OK || f != api.OK || !empty(rest) {
			t.Fatal("GCD", show(a), show(b), show(d))
		}
	}
}

// The calls of the functions that return Ints, with two Ints each.
func calls() map[string]func(a, b api.Int) ([]api.Int, api.Errno) {
	one := func(x api.Int, e api.Errno) ([]api.Int, api.Errno) { return []api.Int{x}, e }
	return map[string]func(a, b api.Int) ([]api.Int, api.Errno){
		"Neg":     func(a, b api.Int) ([]api.Int, api.Errno) { return one(number.Neg(a)) },
		"Add":     func(a, b api.Int) ([]api.Int, api.Errno) { return one(number.Add(a, b)) },
		"Sub":     func(a, b api.Int) ([]api.Int, api.Errno) { return one(number.Sub(a, b)) },
		"Mul":     func(a, b api.Int) ([]api.Int, api.Errno) { return one(number.Mul(a, b)) },
		"GCD":     func(a, b api.Int) ([]api.Int, api.Errno) { return one(number.GCD(a, b)) },
		"Power 0": func(a, b api.Int) ([]api.Int, api.Errno) { return one(number.Power(a, 0)) },
		"Power 1": func(a, b api.Int) ([]api.Int, api.Errno) { return one(number.Power(a, 1)) },
		"Power 2": func(a, b api.Int) ([]api.Int, api.Errno) { return one(number.Power(a, 2)) },
		"DivMod": func(a, b api.Int) ([]api.Int, api.Errno) {
			q, r, e := number.DivMod(a, b)
			return []api.Int{q, r}, e
		},
	}
}

// unary names the calls that ignore the second Int.
func unary(name string) bool { return name == "Neg" || name[0] == 'P' }

// P1.3, P1.4, P1.5

func TestInvalidInts(t *testing.T) {
	for name, call := range calls() {
		for _, bad := range invalid() {
			inputs := []pair{{bad, number.Of(3)}, {bad, bad}, {bad, most()}}
			if !unary(name) {
				inputs = append(inputs, pair{number.Of(3), bad}, pair{api.Int{}, bad}, pair{most(), bad}, pair{bad, api.Int{}})
			}
			for _, p := range inputs {
				list, e := call(p.a, p.b)
				for _, x := range list {
					if e != api.ErrArg || !empty(x) {
						t.Error(name, show(p.a), show(p.b), "is", show(x), e)
					}
				}
			}
		}
	}
	for _, bad := range invalid() {
		for _, n := range []int{-1, 3, 600} {
			if x, e := number.Power(bad, n); e != api.ErrArg || !empty(x) {
				t.Error("Power", show(bad), n, show(x), e)
			}
		}
	}
}

// roomy returns an Int whose digits are the middle of a longer slice, and that slice.
func roomy(a api.Int) (api.Int, []byte) {
	all := append([]byte{77}, a.Digits...)
	all = append(all, bytes.Repeat([]byte{88}, 70)...)
	return api.Int{Neg: a.Neg, Digits: all[1 : 1+len(a.Digits)]}, all
}

// spoil changes all memory that an Int can reach.
func spoil(a api.Int) {
	digits := a.Digits[:cap(a.Digits)]
	for i := range digits {
		digits[i] ^= 0xa5
	}
}

// TestMemory holds the rules on memory: no call changes its arguments or what lies behind them, and results share memory neither with these nor with each other.
func TestMemory(t *testing.T) {
	values := []api.Int{{}, number.Of(1), number.Of(-1), number.Of(2), number.Of(-258), number.Of(1 << 40), most(), least(), fromBig(near(256, 1)), fromBig(near(200, -1))}
	for name, call := range calls() {
		for _, x := range values {
			for _, y := range values {
				checkMemory(t, name+" of "+show(x)+" and "+show(y), call, x, y)
			}
		}
	}
}

func checkMemory(t *testing.T, name string, call func(a, b api.Int) ([]api.Int, api.Errno), x, y api.Int) {
	t.Helper()
	a, aMemory := roomy(x)
	b, bMemory := roomy(y)
	aBefore, bBefore := bytes.Clone(aMemory), bytes.Clone(bMemory)
	list, e := call(a, b)
	var want []api.Int
	for _, r := range list {
		want = append(want, copyOf(r))
	}
	if !bytes.Equal(aMemory, aBefore) || !bytes.Equal(bMemory, bBefore) || a.Neg != x.Neg || b.Neg != y.Neg {
		t.Fatal(name, "changes an argument")
	}
	again, f := call(a, b)
	for i := range list {
		spoil(list[i])
		if !bytes.Equal(aMemory, aBefore) || !bytes.Equal(bMemory, bBefore) {
			t.Fatal(name, "returns memory of an argument")
		}
		for j := i + 1; j < len(list); j++ {
			if !same(list[j], want[j]) {
				t.Fatal(name, "returns the same memory twice")
			}
		}
	}
	spoil(a)
	spoil(b)
	for i := range again {
		if !same(again[i], want[i]) || e != f {
			t.Fatal(name, "shares memory with an earlier result or an argument")
		}
	}
}

func TestMemoryOfOfAndParse(t *testing.T) {
	for _, n := range []int{0, 1, -1, 2, 10, 255, -258, 1 << 60} {
		for _, build := range []func() api.Int{
			func() api.Int { return number.Of(n) },
			func() api.Int { a, _ := number.Parse(strconv.Itoa(n)); return a },
		} {
			first, second := build(), build()
			want := copyOf(second)
			spoil(first)
			if !same(second, want) || !same(build(), want) {
				t.Error("results of", n, "share memory")
			}
		}
	}
}

func TestReadersChangeNothing(t *testing.T) {
	for _, x := range append(samples(), invalid()...) {
		a, memory := roomy(x)
		before := bytes.Clone(memory)
		number.Valid(a)
		number.Value(a)
		number.Compare(a, a)
		number.Sign(a)
		number.Digits10(a)
		number.Text(a)
		if !bytes.Equal(memory, before) {
			t.Fatal(show(x), "is changed")
		}
	}
}

// TestEmptyAndNil holds the rule that both are equivalent.
func TestEmptyAndNil(t *testing.T) {
	for name, call := range calls() {
		for _, x := range []api.Int{number.Of(5), {}} {
			for _, p := range []pair{{api.Int{Digits: []byte{}}, x}, {x, api.Int{Digits: []byte{}}}} {
				list, e := call(p.a, p.b)
				want, f := call(api.Int{Digits: append([]byte(nil), p.a.Digits...)}, api.Int{Digits: append([]byte(nil), p.b.Digits...)})
				for i := range list {
					if e != f || !same(list[i], want[i]) {
						t.Error(name, show(p.a), show(p.b), show(list[i]), e, f)
					}
				}
			}
		}
	}
	zero := api.Int{Digits: []byte{}}
	v, e := number.Value(zero)
	if v != 0 || e != api.OK || number.Sign(zero) != 0 || number.Compare(zero, api.Int{}) != 0 || number.Compare(zero, number.Of(1)) != -1 || number.Text(zero) != "0" || number.Digits10(zero) != 1 {
		t.Error("an Int with empty Digits")
	}
}
