package bitset_test

import (
	"math"
	"slices"
	"strconv"
	"testing"

	"bandplan/api"
	"bandplan/bitset"
)

func TestMax(t *testing.T) {
	if bitset.Max != 512 {
		t.Error(bitset.Max)
	}
}

// P7.1

func TestOf(t *testing.T) {
	for _, l := range lists() {
		s, e := bitset.Of(l...)
		expectSet(t, "Of", s, e, modelOf(l))
		s, e = bitset.Of(slices.Repeat(l, 3)...)
		expectSet(t, "Of, three times", s, e, modelOf(l))
		back := slices.Clone(l)
		slices.Reverse(back)
		s, e = bitset.Of(back...)
		expectSet(t, "Of, reversed", s, e, modelOf(l))
	}
	s, e := bitset.Of()
	expectSet(t, "Of nothing", s, e, model{})
	s, e = bitset.Of([]int{}...)
	expectSet(t, "Of no elements", s, e, model{})
}

// TestOfOutside has the number that is not possible at the beginning, in the middle and at the end.
func TestOfOutside(t *testing.T) {
	for _, i := range outside() {
		for _, l := range [][]int{{i}, {i, 3}, {3, i}, {3, i, 4}, append(run(0, 511), i), append([]int{i}, run(0, 511)...), {i, i}} {
			s, e := bitset.Of(l...)
			expectNone(t, "Of with "+strconv.Itoa(i), s, e, api.ErrArg)
		}
	}
}

func TestBelow(t *testing.T) {
	for n := range bitset.Max + 1 {
		s, e := bitset.Below(n)
		expectSet(t, "Below "+strconv.Itoa(n), s, e, modelOf(run(0, n-1)))
	}
	for _, n := range outside() {
		if n == bitset.Max {
			continue
		}
		s, e := bitset.Below(n)
		expectNone(t, "Below "+strconv.Itoa(n), s, e, api.ErrArg)
	}
}

func TestAddAndRemove(t *testing.T) {
	for _, l := range lists() {
		s, m := of(t, l...), modelOf(l)
		for i := range bitset.Max {
			with := m.where(func(j int) bool { return true })
			with[i] = true
			without := m.where(func(j int) bool { return j != i })
			a, e := s.Add(i)
			b, f := s.Remove(i)
			if a != of(t, with.list()...) || b != of(t, without.list()...) || e != api.OK || f != api.OK {
				t.Fatalf("%v with %d: %v, %v; without: %v, %v", m.list(), i, a.List(), e, b.List(), f)
			}
			if i%37 == 0 {
				expectSet(t, "Add", a, e, with)
				expectSet(t, "Remove", b, f, without)
			}
		}
		expectSet(t, "after Add and Remove", s, api.OK, m)
	}
}

func TestAddAndRemoveOutside(t *testing.T) {
	for _, l := range lists() {
		s := of(t, l...)
		for _, i := range outside() {
			a, e := s.Add(i)
			expectNone(t, "Add "+strconv.Itoa(i), a, e, api.ErrArg)
			a, e = s.Remove(i)
			expectNone(t, "Remove "+strconv.Itoa(i), a, e, api.ErrArg)
		}
		expectSet(t, "after errors", s, api.OK, modelOf(l))
	}
}

// P7.2

// TestMembers asks for what is set by hand; the other tests hold sets against a model in the same way.
func TestMembers(t *testing.T) {
	s := of(t, 5, 0, 511, 64, 5)
	for i := -600; i < 1200; i++ {
		if s.Has(i) != (i == 0 || i == 5 || i == 64 || i == 511) {
			t.Error("Has", i)
		}
	}
	if s.Len() != 4 || s.Empty() {
		t.Error(s.Len(), s.Empty())
	}
	all, e := bitset.Below(bitset.Max)
	if all.Len() != 512 || all.Empty() || e != api.OK {
		t.Error(all.Len(), all.Empty(), e)
	}
	var none bitset.Set
	if none.Len() != 0 || !none.Empty() || none.Has(0) {
		t.Error(none.Len(), none.Empty())
	}
}

func TestHasOutside(t *testing.T) {
	for _, l := range lists() {
		s := of(t, l...)
		for _, i := range outside() {
			if s.Has(i) {
				t.Errorf("%v has %d", s.List(), i)
			}
		}
	}
}

func TestSubsetOf(t *testing.T) {
	for _, k := range lists() {
		for _, l := range lists() {
			m := modelOf(l)
			want := len(modelOf(k).where(func(i int) bool { return !m[i] })) == 0
			if of(t, k...).SubsetOf(of(t, l...)) != want {
				t.Errorf("%v and %v: %t", k, l, !want)
			}
		}
	}
}

// TestSubsetsOfNearlyAll leaves one member out of the other set.
func TestSubsetsOfNearlyAll(t *testing.T) {
	all := of(t, run(0, 511)...)
	for i := range bitset.Max {
		s, e := all.Remove(i)
		if e != api.OK || all.SubsetOf(s) || !s.SubsetOf(all) || !all.SubsetOf(all) || of(t, i).SubsetOf(s) || !of(t).SubsetOf(s) {
			t.Errorf("without %d: %v", i, e)
		}
	}
}

// P7.3

func TestUnionIntersectMinus(t *testing.T) {
	for _, k := range lists() {
		for _, l := range lists() {
			a, b := modelOf(k), modelOf(l)
			s, o := of(t, k...), of(t, l...)
			expectSet(t, "Union", s.Union(o), api.OK, modelOf(slices.Concat(k, l)))
			expectSet(t, "Intersect", s.Intersect(o), api.OK, a.where(func(i int) bool { return b[i] }))
			expectSet(t, "Minus", s.Minus(o), api.OK, a.where(func(i int) bool { return !b[i] }))
			if s != of(t, k...) || o != of(t, l...) {
				t.Fatalf("%v or %v has changed", k, l)
			}
		}
	}
}

// P7.4

func TestMinAndNext(t *testing.T) {
	for _, l := range lists() {
		s, m := of(t, l...), modelOf(l)
		if s.Min() != m.next(0) {
			t.Errorf("Min of %v: %d", l, s.Min())
		}
		want := -1
		for i := 1200; i >= -600; i-- {
			if m[i] {
				want = i
			}
			if n := s.Next(i); n != want {
				t.Fatalf("Next(%d) of %v: %d, want %d", i, m.list(), n, want)
			}
		}
		for _, i := range outside() {
			if n := s.Next(i); n != m.next(i) {
				t.Errorf("Next(%d) of %v: %d, want %d", i, m.list(), n, m.next(i))
			}
		}
	}
}

func TestAllStopsEarly(t *testing.T) {
	for _, l := range lists() {
		s := of(t, l...)
		all := s.All()
		list := modelOf(l).list()
		for n := range len(list) {
			var some []int
			for i := range all {
				if some = append(some, i); len(some) > n {
					break
				}
			}
			if !slices.Equal(some, list[:n+1]) {
				t.Fatalf("%v: %v", list, some)
			}
		}
		if again := slices.Collect(all); !slices.Equal(again, list) {
			t.Errorf("after loops that stopped early: %v, want %v", again, list)
		}
	}
}

// TestAllStops calls an iterator as a function: it asks for no more members after the first false.
func TestAllStops(t *testing.T) {
	for stop := 1; stop <= 5; stop++ {
		calls := 0
		of(t, 1, 63, 64, 200, 511).All()(func(int) bool { calls++; return calls < stop })
		if calls != stop {
			t.Errorf("%d calls and not %d", calls, stop)
		}
	}
}

func TestAllNested(t *testing.T) {
	all := of(t, 3, 64, 511).All()
	var l []int
	for i := range all {
		for j := range all {
			l = append(l, i*1000+j)
		}
	}
	if !slices.Equal(l, []int{3003, 3064, 3511, 64003, 64064, 64511, 511003, 511064, 511511}) {
		t.Error(l)
	}
}

// TestAllUsesTheStateOfTheCall gives the variable another set between the call and the loop, and within the loop.
func TestAllUsesTheStateOfTheCall(t *testing.T) {
	s := of(t, 3, 64, 511)
	all := s.All()
	s = of(t, 7)
	for range 2 {
		var l []int
		for i := range all {
			l = append(l, i)
			s = of(t, 100+i%2)
		}
		if !slices.Equal(l, []int{3, 64, 511}) || s.Len() != 1 {
			t.Error(l)
		}
	}
}

func TestAllOfNothing(t *testing.T) {
	var none bitset.Set
	if none.All() == nil {
		t.Fatal("a nil iterator")
	}
	for i := range none.All() {
		t.Error(i)
	}
	if len(none.List()) != 0 || none.Min() != -1 || none.Next(0) != -1 || none.Next(math.MinInt) != -1 {
		t.Error(none.List(), none.Min(), none.Next(0))
	}
}
