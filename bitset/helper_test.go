package bitset_test

import (
	"bytes"
	"maps"
	"math"
	"math/big"
	"slices"
	"strconv"
	"strings"
	"testing"

	"bandplan/api"
	"bandplan/bitset"
)

// A model is a set of numbers of any size.
type model map[int]bool

func modelOf(l []int) model {
	m := model{}
	for _, i := range l {
		m[i] = true
	}
	return m
}

func (m model) list() []int { return slices.Sorted(maps.Keys(m)) }

// where returns the set of the members that fulfil a condition.
func (m model) where(keep func(int) bool) model {
	some := maps.Clone(m)
	maps.DeleteFunc(some, func(i int, _ bool) bool { return !keep(i) })
	return some
}

// next returns the smallest member that is at least i, or -1.
func (m model) next(i int) int {
	for _, j := range m.list() {
		if j >= i {
			return j
		}
	}
	return -1
}

func (m model) text() string {
	var parts []string
	for _, i := range m.list() {
		parts = append(parts, strconv.Itoa(i))
	}
	return "{" + strings.Join(parts, ",") + "}"
}

// bytes returns the bits of one large number, whose lowest byte comes first.
func (m model) bytes() []byte {
	n := new(big.Int)
	for i := range m {
		n.SetBit(n, i, 1)
	}
	b := n.Bytes()
	slices.Reverse(b)
	return b
}

// draw is a source of numbers: the next one is below a limit.
type draw uint64

func (d *draw) below(limit int) int {
	*d = *d*6364136223846793005 + 1442695040888963407
	return int(uint64(*d) >> 33 % uint64(limit))
}

// some returns numbers that can be members, in an order, some of them several times.
func (d *draw) some(n int) []int {
	l := make([]int, n)
	for i := range l {
		l[i] = d.below(bitset.Max)
	}
	return l
}

// run returns the numbers from the first one to the last one.
func run(first, last int) []int {
	var l []int
	for i := first; i <= last; i++ {
		l = append(l, i)
	}
	return l
}

// lists returns the members of sets of all kinds.
func lists() [][]int {
	l := [][]int{nil, {0, 511}, {63, 64}, {127, 128}, run(0, 511), run(1, 510), run(0, 63), run(64, 127), run(448, 511), run(60, 70), run(8, 15)}
	for _, i := range []int{0, 1, 7, 8, 9, 31, 32, 62, 63, 64, 65, 127, 128, 191, 192, 255, 256, 257, 319, 320, 383, 384, 447, 448, 449, 503, 504, 510, 511} {
		l = append(l, []int{i})
	}
	d := draw(7)
	for _, n := range []int{2, 3, 5, 10, 30, 100, 300, 1000, 3000} {
		l = append(l, d.some(n), d.some(n))
	}
	return l
}

// outside returns numbers that cannot be members.
func outside() []int {
	return []int{-1, -2, -8, -63, -64, -65, -511, -512, -513, 512, 513, 575, 576, 1023, 1024, 1 << 31, 1 << 32, 1<<32 + 5, 1 << 40, -1 << 32, math.MaxInt, math.MaxInt - 1, math.MinInt, math.MinInt + 1}
}

// of returns a set, which must be possible.
func of(t *testing.T, l ...int) bitset.Set {
	t.Helper()
	s, e := bitset.Of(l...)
	if e != api.OK {
		t.Fatalf("Of %v: %v", l, e)
	}
	return s
}

// expectSet checks a set and its error by all that can be asked of it.
func expectSet(t *testing.T, name string, s bitset.Set, e api.Errno, m model) {
	t.Helper()
	list := m.list()
	if e != api.OK || s != of(t, list...) {
		t.Fatalf("%s: %v, %v, want %v", name, s.List(), e, list)
	}
	if s.Len() != len(m) || s.Empty() != (len(m) == 0) || s.Min() != m.next(math.MinInt) {
		t.Errorf("%s: Len %d, Empty %t, Min %d of %v", name, s.Len(), s.Empty(), s.Min(), list)
	}
	if l := slices.Collect(s.All()); !slices.Equal(s.List(), list) || !slices.Equal(l, list) {
		t.Errorf("%s: List %v, All %v, want %v", name, s.List(), l, list)
	}
	if s.Text() != m.text() || !bytes.Equal(s.Encode(), m.bytes()) {
		t.Errorf("%s: Text %s, Encode %x, want %s and %x", name, s.Text(), s.Encode(), m.text(), m.bytes())
	}
	for i := range bitset.Max {
		if s.Has(i) != m[i] {
			t.Errorf("%s: Has %d of %v", name, i, list)
		}
	}
}

// expectNone checks an error and the empty set beside it.
func expectNone(t *testing.T, name string, s bitset.Set, e, want api.Errno) {
	t.Helper()
	if s != (bitset.Set{}) || e != want {
		t.Errorf("%s: %v, %v, want %v", name, s.List(), e, want)
	}
}

// expectParse checks that a string is that of a set with some members, or of none.
func expectParse(t *testing.T, text string, m model) {
	t.Helper()
	s, e := bitset.Parse(text)
	if m.text() == text {
		expectSet(t, "Parse", s, e, m)
	} else {
		expectNone(t, "Parse of "+strconv.Quote(text[:min(len(text), 100)]), s, e, api.ErrFormat)
	}
}
