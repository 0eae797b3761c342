package bitset_test

import (
	"bytes"
	"slices"
	"testing"

	"bandplan/api"
	"bandplan/bitset"
)

// P7.6

// sets returns sets of all kinds.
func sets(t *testing.T) []bitset.Set {
	t.Helper()
	var all []bitset.Set
	for _, l := range lists() {
		all = append(all, of(t, l...))
	}
	return all
}

func TestLawsOfTwo(t *testing.T) {
	for _, a := range sets(t) {
		for _, b := range sets(t) {
			both, one := a.Intersect(b), a.Minus(b)
			if a.Union(b) != b.Union(a) || both != b.Intersect(a) {
				t.Errorf("not commutative: %s, %s", a.Text(), b.Text())
			}
			if both.Union(one) != a || !both.Intersect(one).Empty() || both.Len()+one.Len() != a.Len() {
				t.Errorf("not divided: %s by %s", a.Text(), b.Text())
			}
			if a.Union(b).Len() != a.Len()+b.Len()-both.Len() || a.Union(b).Minus(b) != one {
				t.Errorf("union: %s, %s", a.Text(), b.Text())
			}
			if a.SubsetOf(b) != (a.Union(b) == b) || a.SubsetOf(b) != (both == a) || a.SubsetOf(b) != one.Empty() {
				t.Errorf("subset: %s, %s", a.Text(), b.Text())
			}
		}
	}
}

func TestLawsOfThree(t *testing.T) {
	d := draw(9)
	some := sets(t)
	for range 20000 {
		a, b, c := some[d.below(len(some))], some[d.below(len(some))], some[d.below(len(some))]
		if a.Union(b).Union(c) != a.Union(b.Union(c)) || a.Intersect(b).Intersect(c) != a.Intersect(b.Intersect(c)) {
			t.Errorf("not associative: %s, %s, %s", a.Text(), b.Text(), c.Text())
		}
		if a.Union(b.Intersect(c)) != a.Union(b).Intersect(a.Union(c)) || a.Intersect(b.Union(c)) != a.Intersect(b).Union(a.Intersect(c)) {
			t.Errorf("not distributive: %s, %s, %s", a.Text(), b.Text(), c.Text())
		}
	}
}

func TestBothWays(t *testing.T) {
	d := draw(10)
	for n := range 2000 {
		s := of(t, d.some(n)...)
		a, e := bitset.Parse(s.Text())
		b, f := bitset.Decode(s.Encode())
		if a != s || b != s || e != api.OK || f != api.OK {
			t.Fatalf("%s: %v and %v", s.Text(), e, f)
		}
	}
}

// The rules of all layers.

// TestEqualSets reaches the same members in several ways: the Sets are equal, also as keys.
func TestEqualSets(t *testing.T) {
	for _, l := range lists() {
		want := of(t, l...)
		m := modelOf(l)
		var added bitset.Set
		for i := range bitset.Max {
			added, _ = added.Add(i)
		}
		removed := added
		for i := range bitset.Max {
			if !m[i] {
				removed, _ = removed.Remove(i)
			}
		}
		parsed, _ := bitset.Parse(m.text())
		decoded, _ := bitset.Decode(m.bytes())
		keys := map[bitset.Set]int{want: 1}
		for _, s := range []bitset.Set{removed, parsed, decoded, added.Intersect(want), want.Union(bitset.Set{}), want.Minus(bitset.Set{})} {
			if s != want || keys[s] != 1 {
				t.Errorf("%s is not %s", s.Text(), want.Text())
			}
		}
	}
	all := map[bitset.Set]bool{}
	for i := range bitset.Max {
		all[of(t, i)] = true
	}
	if len(all) != bitset.Max {
		t.Error(len(all))
	}
}

// TestZeroSet uses the zero value as the empty set.
func TestZeroSet(t *testing.T) {
	var none bitset.Set
	expectSet(t, "the zero value", none, api.OK, model{})
	s, e := none.Add(5)
	expectSet(t, "Add", s, e, model{5: true})
	s, e = none.Remove(5)
	expectSet(t, "Remove", s, e, model{})
	s, e = bitset.Below(0)
	expectSet(t, "Below", s, e, model{})
	other := of(t, 5)
	if none.Union(other) != other || none.Intersect(other) != none || none.Minus(other) != none || !none.SubsetOf(other) || other.SubsetOf(none) || !none.SubsetOf(none) {
		t.Error("the zero value with another set")
	}
}

// TestArguments holds the rule that arguments are neither modified, also beyond their lengths, nor retained.
func TestArguments(t *testing.T) {
	for _, l := range lists() {
		m := modelOf(l)
		given := append(slices.Clone(l), 77, -77)
		s, e := bitset.Of(given[:len(l)]...)
		if !slices.Equal(given[:len(l)], l) || given[len(l)] != 77 || given[len(l)+1] != -77 {
			t.Fatalf("Of has changed %v", l)
		}
		clear(given)
		expectSet(t, "Of", s, e, m)
		b := append(m.bytes(), 0xa5, 0x5a)
		s, e = bitset.Decode(b[:len(b)-2])
		if !bytes.Equal(b, append(m.bytes(), 0xa5, 0x5a)) {
			t.Fatalf("Decode has changed %x", m.bytes())
		}
		clear(b)
		expectSet(t, "Decode", s, e, m)
	}
}

// TestResults changes results: neither the set nor other results have changed.
func TestResults(t *testing.T) {
	for _, l := range lists() {
		s, m := of(t, l...), modelOf(l)
		list, other := s.List(), s.List()
		b, c := s.Encode(), s.Encode()
		clear(list[:cap(list)])
		clear(b[:cap(b)])
		if !slices.Equal(other, m.list()) || !bytes.Equal(c, m.bytes()) {
			t.Fatalf("%v %x, want %v", other, c, m.list())
		}
		expectSet(t, "after its results were cleared", s, api.OK, m)
	}
}

// TestNilAndEmpty holds the rule that nil and empty slices are equivalent.
func TestNilAndEmpty(t *testing.T) {
	for _, b := range [][]byte{nil, {}} {
		s, e := bitset.Decode(b)
		expectSet(t, "Decode", s, e, model{})
	}
	for _, l := range [][]int{nil, {}} {
		s, e := bitset.Of(l...)
		expectSet(t, "Of", s, e, model{})
	}
}
