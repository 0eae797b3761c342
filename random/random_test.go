package random_test

import (
	"slices"
	"strconv"
	"testing"

	"bandplan/api"
	"bandplan/random"
)

func TestConstants(t *testing.T) {
	if random.MaxLimit != 1<<62 || random.MaxShuffle != 4096 {
		t.Error(random.MaxLimit, random.MaxShuffle)
	}
}

// P3.1

// TestPublishedWords holds words that are published for splitmix64.
func TestPublishedWords(t *testing.T) {
	for seed, words := range map[int][]uint64{
		0:       {0xe220a8397b1dcdaf, 0x6e789e6aa1b965f4, 0x06c45d188009454f, 0xf88bb8a8724c81ec, 0x1b39896a51a8749b},
		1234567: {6457827717110365317, 3203168211198807973, 9817491932198370423, 4593380528125082431, 16408922859458223821},
	} {
		s := random.New(seed)
		for i, want := range words {
			if w := s.Word(); w != want {
				t.Errorf("seed %d, word %d: %x", seed, i, w)
			}
		}
	}
}

func TestWords(t *testing.T) {
	for _, seed := range seeds() {
		s, m := random.New(seed), modelOf(seed)
		for i := range 200 {
			if w, want := s.Word(), m.word().Uint64(); w != want {
				t.Fatalf("seed %d, word %d: %x and not %x", seed, i, w, want)
			}
		}
	}
}

// TestStateZero has sources whose state is 0, which is that of a zero Source, too: one from the start, and one after a word.
func TestStateZero(t *testing.T) {
	s := random.New(0x61c8864680b583eb)
	if w := s.Word(); w != 0 {
		t.Fatalf("%x", w)
	}
	for _, z := range []*random.Source{random.New(0), s} {
		if n, e := z.Copy().Number(1000); n != modelOf(0).number(1000) || e != api.OK {
			t.Error(n, e)
		}
		if list := take(z, 1000, 1); len(list) != 1 {
			t.Error(list)
		}
		expectState(t, "state 0", z, modelOf(0))
	}
}

func TestWordOfNoSource(t *testing.T) {
	for name, s := range none() {
		for range 3 {
			if w := s.Word(); w != 0 {
				t.Errorf("%s: %x", name, w)
			}
		}
	}
}

// P3.2

func TestNumber(t *testing.T) {
	for _, limit := range limits() {
		for _, seed := range seeds() {
			s, m := random.New(seed), modelOf(seed)
			for i := range 30 {
				n, e := s.Number(limit)
				if want := m.number(limit); n != want || e != api.OK {
					t.Fatal("limit", limit, "seed", seed, "number", i, "is", n, e, "and not", want)
				}
			}
			expectState(t, "limit "+strconv.Itoa(limit), s, m)
		}
	}
}

// TestNumberAtTheMultiple has words just below, at and beyond the greatest multiple of a limit.
func TestNumberAtTheMultiple(t *testing.T) {
	for _, limit := range limits() {
		last := multiple(limit).Uint64() - 1
		words := []uint64{0, 1, uint64(limit) - 1, uint64(limit), last - 1, last, last + 1, last + 2, 1<<64 - 2, 1<<64 - 1}
		for _, word := range words {
			seed := seedBefore(word)
			s, m := random.New(seed), modelOf(seed)
			if w := modelOf(seed).word().Uint64(); w != word {
				t.Fatalf("seedBefore(%x) leads to %x", word, w)
			}
			n, e := s.Number(limit)
			want := m.number(limit)
			if n != want || e != api.OK || word <= last && n != int(word%uint64(limit)) {
				t.Error("limit", limit, "word", word, "is", n, e, "and not", want)
			}
			expectState(t, "limit "+strconv.Itoa(limit), s, m)
		}
	}
}

// TestRejectedWords has many words that are not taken, also several ones after each other.
func TestRejectedWords(t *testing.T) {
	s, m := random.New(11), modelOf(11)
	most := 0
	for range 2000 {
		before := m.words
		want := m.number(wasteful)
		most = max(most, m.words-before)
		if n, e := s.Number(wasteful); n != want || e != api.OK {
			t.Fatal(n, e, want)
		}
	}
	if most < 4 || m.words < 2300 {
		t.Error("too few words were not taken", most, m.words)
	}
}

func TestNumberErrors(t *testing.T) {
	for _, limit := range badLimits() {
		s := random.New(6)
		if n, e := s.Number(limit); n != 0 || e != api.ErrArg {
			t.Error(limit, n, e)
		}
		expectState(t, "limit "+strconv.Itoa(limit), s, modelOf(6))
	}
	for name, s := range none() {
		for _, limit := range append(badLimits(), limits()...) {
			if n, e := s.Number(limit); n != 0 || e != api.ErrNil {
				t.Error(name, limit, n, e)
			}
		}
	}
}

func TestNumbers(t *testing.T) {
	for _, limit := range limits() {
		s, m := random.New(limit), modelOf(limit)
		s.Word()
		m.word()
		for i, n := range take(s, limit, 100) {
			if want := m.number(limit); n != want {
				t.Fatal("limit", limit, "element", i, "is", n, "and not", want)
			}
		}
	}
}

// TestNumbersGoOn takes far more elements than any list of this layer has.
func TestNumbersGoOn(t *testing.T) {
	if list := take(random.New(1), 2, 100000); len(list) != 100000 {
		t.Error(len(list))
	}
}

func TestNumbersLeaveTheSource(t *testing.T) {
	s := random.New(13)
	numbers := s.Numbers(10)
	for n := range numbers {
		if n < 0 {
			break
		}
		if w := s.Copy().Word(); w != modelOf(13).word().Uint64() {
			t.Fatal("the source has changed within the loop")
		}
		if n == 3 {
			break
		}
	}
	expectState(t, "after the loop", s, modelOf(13))
}

// TestNumbersUseTheStateOfTheCall changes the source after the call, and between and within the loops.
func TestNumbersUseTheStateOfTheCall(t *testing.T) {
	s := random.New(17)
	want := take(s, 1000, 20)
	numbers := s.Numbers(1000)
	s.Word()
	for range 3 {
		i := 0
		for n := range numbers {
			s.Word()
			if n != want[i] {
				t.Fatal(i, n, want)
			}
			if i++; i == len(want) {
				break
			}
		}
	}
	*s = random.Source{}
	for n := range numbers {
		if n != want[0] {
			t.Error("after the source was cleared", n, want)
		}
		break
	}
}

// TestNumbersNested goes twice through an iterator at the same time.
func TestNumbersNested(t *testing.T) {
	s := random.New(19)
	want := take(s, 1<<62-1, 8)
	numbers := s.Numbers(1<<62 - 1)
	var outer, inner []int
	for n := range numbers {
		outer = append(outer, n)
		for k := range numbers {
			if inner = append(inner, k); len(inner)%4 == 0 {
				break
			}
		}
		if len(outer) == 8 {
			break
		}
	}
	if !slices.Equal(outer, want) {
		t.Error(outer, want)
	}
	for i, k := range inner {
		if k != want[i%4] {
			t.Error(inner, want)
		}
	}
}

func TestNumbersWithErrors(t *testing.T) {
	for _, limit := range badLimits() {
		s := random.New(23)
		if list := take(s, limit, 1); len(list) != 0 {
			t.Error(limit, list)
		}
		expectState(t, "limit "+strconv.Itoa(limit), s, modelOf(23))
	}
	for name, s := range none() {
		for _, limit := range []int{-1, 0, 1, 7, 1 << 62, 1<<62 + 1} {
			if s.Numbers(limit) == nil || len(take(s, limit, 1)) != 0 {
				t.Error(name, limit)
			}
		}
	}
	var s random.Source
	numbers := s.Numbers(5)
	s = *random.New(1)
	for n := range numbers {
		t.Error("of what was no source at the time of the call", n)
		break
	}
}

// P3.3

func TestShuffle(t *testing.T) {
	for _, n := range []int{0, 1, 2, 3, 4, 5, 30, 100, 1000, 4095, 4096} {
		for _, seed := range seeds()[:6] {
			s, m := random.New(seed), modelOf(seed)
			list, e := s.Shuffle(n)
			if want := m.shuffle(n); !slices.Equal(list, want) || e != api.OK {
				t.Fatal("seed", seed, "of", n, "is", list, e, "and not", want)
			}
			expectState(t, "shuffle "+strconv.Itoa(n), s, m)
		}
	}
}

// TestShortShuffles has no words to generate, and then one, which is even or odd.
func TestShortShuffles(t *testing.T) {
	s := random.New(5)
	for n, want := range [][]int{{}, {0}} {
		if list, e := s.Shuffle(n); !slices.Equal(list, want) || e != api.OK {
			t.Error(n, list, e)
		}
	}
	expectState(t, "after both", s, modelOf(5))
	for word, want := range map[uint64][]int{0: {1, 0}, 1: {0, 1}, 1<<64 - 2: {1, 0}, 1<<64 - 1: {0, 1}} {
		s := random.New(seedBefore(word))
		if list, e := s.Shuffle(2); !slices.Equal(list, want) || e != api.OK {
			t.Error(word, list, e)
		}
	}
	// The last word is not taken for a number less than 3.
	seed := seedBefore(1<<64 - 1)
	list, e := random.New(seed).Shuffle(3)
	if want := modelOf(seed).shuffle(3); !slices.Equal(list, want) || e != api.OK {
		t.Error(list, e, want)
	}
}

func TestShuffleErrors(t *testing.T) {
	for _, n := range badCounts() {
		s := random.New(29)
		if list, e := s.Shuffle(n); len(list) != 0 || e != api.ErrArg {
			t.Error(n, len(list), e)
		}
		expectState(t, "shuffle "+strconv.Itoa(n), s, modelOf(29))
	}
	for name, s := range none() {
		for _, n := range append(badCounts(), 0, 1, 2, 4096) {
			if list, e := s.Shuffle(n); len(list) != 0 || e != api.ErrNil {
				t.Error(name, n, len(list), e)
			}
		}
	}
}

func TestFork(t *testing.T) {
	for _, seed := range seeds() {
		for _, label := range seeds() {
			s, m := random.New(seed), modelOf(seed)
			f, e := s.Fork(label)
			if e != api.OK || f == nil || f == s {
				t.Fatal(seed, label, e)
			}
			name := "fork of " + strconv.Itoa(seed) + " with " + strconv.Itoa(label)
			expectState(t, name, f, m.fork(label))
			expectState(t, "after the "+name, s, m)
		}
	}
}

// TestForkToStateZero has a fork whose state is that of a zero Source.
func TestForkToStateZero(t *testing.T) {
	f, e := random.New(7).Fork(int(random.New(7).Word()))
	if e != api.OK {
		t.Fatal(e)
	}
	if n, e := f.Copy().Number(1 << 62); n != modelOf(0).number(1<<62) || e != api.OK {
		t.Error(n, e)
	}
	expectState(t, "fork", f, modelOf(0))
}

func TestForkErrors(t *testing.T) {
	for name, s := range none() {
		for _, label := range []int{0, 1, -1, 1<<63 - 1} {
			if f, e := s.Fork(label); f != nil || e != api.ErrNil {
				t.Error(name, label, f, e)
			}
		}
	}
}

// P3.4

func TestCopy(t *testing.T) {
	for _, seed := range seeds() {
		s, m := random.New(seed), modelOf(seed)
		for i := range 4 {
			expectState(t, "copy "+strconv.Itoa(i), s.Copy(), &model{state: m.state})
			s.Word()
			m.word()
		}
	}
}

// TestCopyIsIndependent uses a source and its copy in turns, and copies of copies.
func TestCopyIsIndependent(t *testing.T) {
	s := random.New(31)
	c := s.Copy()
	d := c.Copy()
	if s == c || c == d {
		t.Fatal("the copy is the source")
	}
	c.Word()
	c.Shuffle(10)
	expectState(t, "after calls of the copy", s, modelOf(31))
	expectState(t, "copy of a copy", d, modelOf(31))
	m := modelOf(31)
	m.word()
	m.shuffle(10)
	expectState(t, "after calls of the source", c, m)
}

func TestCopyOfNoSource(t *testing.T) {
	for name, s := range none() {
		if c := s.Copy(); c != nil {
			t.Error(name, c)
		}
	}
}
