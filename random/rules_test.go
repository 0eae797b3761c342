package random_test

import (
	"slices"
	"testing"

	"bandplan/api"
	"bandplan/random"
)

// P3.5

// script makes calls that depend on one another, and returns their results.
func script(s *random.Source) []int {
	var results []int
	for i := range 12 {
		results = append(results, int(s.Word()))
		n, e := s.Number(1000*i - 1000)
		results = append(results, n, int(e))
		list, e := s.Shuffle(i - 1)
		results = append(append(results, list...), int(e))
		f, e := s.Fork(-i)
		results = append(results, int(f.Word()), int(e))
		results = append(results, take(s, i, i)...)
		results = append(results, int(s.Copy().Word()))
	}
	return results
}

func TestEqualSeeds(t *testing.T) {
	var all [][]int
	for _, seed := range seeds() {
		first := random.New(seed)
		// What another source does between the calls makes no difference.
		random.New(seed).Word()
		want := script(first)
		if got := script(random.New(seed)); !slices.Equal(got, want) {
			t.Error("seed", seed)
		}
		all = append(all, want)
	}
	slices.SortFunc(all, slices.Compare)
	if len(slices.CompactFunc(all, slices.Equal)) != len(seeds()) {
		t.Error("different seeds have equal results")
	}
}

func TestNumbersAreLessThanTheirLimits(t *testing.T) {
	s := random.New(37)
	for i := range 20000 {
		limit := i%97 + 1
		if i%3 == 0 {
			limit = 1 + int(s.Word()>>(2+i%60))
		}
		if n, e := s.Number(limit); n < 0 || n >= limit || e != api.OK {
			t.Fatal(limit, n, e)
		}
	}
}

// TestAllNumbersCome holds for small limits only, for which it is certain enough.
func TestAllNumbersCome(t *testing.T) {
	for limit := 1; limit <= 20; limit++ {
		list := take(random.New(41), limit, 1000)
		slices.Sort(list)
		if list = slices.Compact(list); len(list) != limit {
			t.Error(limit, list)
		}
	}
}

func TestShuffledListsContainEachNumberOnce(t *testing.T) {
	s := random.New(43)
	for _, n := range []int{0, 1, 2, 3, 17, 256, 4095, 4096} {
		list, e := s.Shuffle(n)
		if len(list) != n || e != api.OK {
			t.Fatal(n, len(list), e)
		}
		slices.Sort(list)
		for i, k := range list {
			if i != k {
				t.Fatal(n, "has no", i)
			}
		}
	}
}

func TestErrorsLeaveTheState(t *testing.T) {
	s, m := random.New(47), modelOf(47)
	for range 5 {
		for _, limit := range badLimits() {
			s.Number(limit)
			take(s, limit, 3)
		}
		for _, n := range badCounts() {
			s.Shuffle(n)
		}
		expectState(t, "after errors", s, m)
	}
}

// TestNoSourceStaysNone calls everything on a zero Source, which is then still one.
func TestNoSourceStaysNone(t *testing.T) {
	s := &random.Source{}
	for range 2 {
		_, e := s.Number(0)
		_, f := s.Shuffle(-1)
		_, g := s.Fork(0)
		if e != api.ErrNil || f != api.ErrNil || g != api.ErrNil || s.Word() != 0 || s.Copy() != nil || len(take(s, 3, 1)) != 0 {
			t.Error(e, f, g)
		}
	}
	if *s != (random.Source{}) {
		t.Error("a zero Source has changed")
	}
}

// TestMemory holds the rule that results share no memory: lists are changed, and the next ones are not.
func TestMemory(t *testing.T) {
	s, m := random.New(53), modelOf(53)
	first, _ := s.Shuffle(50)
	second, _ := s.Shuffle(50)
	m.shuffle(50)
	want := m.shuffle(50)
	for _, list := range [][]int{first, first[:cap(first)]} {
		for i := range list {
			list[i] = -1
		}
	}
	if !slices.Equal(second, want) {
		t.Error(second, want)
	}
	third, e := s.Shuffle(50)
	if want := m.shuffle(50); !slices.Equal(third, want) || e != api.OK {
		t.Error(third, e, want)
	}
}
