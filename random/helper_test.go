package random_test

import (
	"math/big"
	"testing"

	"bandplan/random"
)

// A model is a source by its definition, calculated with integers that do not wrap around.
type model struct {
	state *big.Int
	words int // how many words it has generated
}

func hex(s string) *big.Int {
	n, ok := new(big.Int).SetString(s, 16)
	if !ok {
		panic(s)
	}
	return n
}

// size is 2^64.
func size() *big.Int { return new(big.Int).Lsh(big.NewInt(1), 64) }

func wrap(n *big.Int) *big.Int { return n.Mod(n, size()) }

func modelOf(seed int) *model { return &model{state: wrap(big.NewInt(int64(seed)))} }

// mix returns (z xor (z shifted right)) times a factor.
func mix(z *big.Int, shift uint, factor *big.Int) *big.Int {
	shifted := new(big.Int).Rsh(z, shift)
	return wrap(shifted.Mul(shifted.Xor(shifted, z), factor))
}

func (m *model) word() *big.Int {
	m.words++
	m.state = wrap(new(big.Int).Add(m.state, hex("9e3779b97f4a7c15")))
	z := mix(m.state, 30, hex("bf58476d1ce4e5b9"))
	z = mix(z, 27, hex("94d049bb133111eb"))
	return mix(z, 31, big.NewInt(1))
}

// multiple returns the greatest multiple of a limit that is at most 2^64.
func multiple(limit int) *big.Int {
	l := big.NewInt(int64(limit))
	q := new(big.Int).Div(size(), l)
	return q.Mul(q, l)
}

func (m *model) number(limit int) int {
	w := m.word()
	for w.Cmp(multiple(limit)) >= 0 {
		w = m.word()
	}
	return int(w.Mod(w, big.NewInt(int64(limit))).Int64())
}

func (m *model) shuffle(n int) []int {
	var list []int
	for i := range n {
		list = append(list, i)
	}
	for i := n - 1; i >= 1; i-- {
		j := m.number(i + 1)
		list[i], list[j] = list[j], list[i]
	}
	return list
}

func (m *model) fork(label int) *model {
	w := m.word()
	return &model{state: w.Xor(w, wrap(big.NewInt(int64(label))))}
}

// inverse returns the odd number that gives 1 with a factor.
func inverse(factor uint64) uint64 {
	f := new(big.Int).SetUint64(factor)
	return f.ModInverse(f, size()).Uint64()
}

// seedBefore returns the seed whose first word is a word: it takes the steps of a word back.
func seedBefore(word uint64) int {
	z := word ^ word>>31 ^ word>>62
	z *= inverse(0x94d049bb133111eb)
	z ^= z>>27 ^ z>>54
	z *= inverse(0xbf58476d1ce4e5b9)
	z ^= z>>30 ^ z>>60
	return int(z - 0x9e3779b97f4a7c15)
}

// expectState checks the state of a source by its next words, which it takes.
func expectState(t *testing.T, name string, s *random.Source, m *model) {
	t.Helper()
	for i := range 3 {
		if w, want := s.Word(), m.word().Uint64(); w != want {
			t.Fatalf("%s: word %d is %x and not %x", name, i, w, want)
		}
	}
}

// take returns the first elements of an iterator, at most a number of them.
func take(s *random.Source, limit, count int) []int {
	var list []int
	for n := range s.Numbers(limit) {
		if list = append(list, n); len(list) >= count {
			break
		}
	}
	return list
}

// none returns what is not a source, by name.
func none() map[string]*random.Source {
	return map[string]*random.Source{"nil": nil, "zero": {}}
}

// seeds returns seeds around 0 and at both ends of the ints.
func seeds() []int {
	return []int{0, 1, 2, 3, 7, 9, -1, -2, -5, 42, 1234567, 1 << 32, -1 << 40, 1<<62 - 1, 1 << 62, 1<<63 - 1, -1<<63 + 1, -1 << 63}
}

// wasteful is a limit for which nearly one word in five is not taken, the most possible.
const wasteful = 3689348814741910324

// limits returns limits of all sizes that are allowed, powers of 2 among them.
func limits() []int {
	return []int{1, 2, 3, 4, 5, 6, 7, 10, 100, 255, 256, 1000, 4097, 1 << 31, 1<<32 + 1, 3 << 40, 1<<61 - 1, 1 << 61, 1<<61 + 1, wasteful - 1, wasteful, 1<<62 - 2, 1<<62 - 1, 1 << 62}
}

// badLimits returns limits that are not allowed.
func badLimits() []int { return []int{0, -1, -2, 1<<62 + 1, 1<<63 - 1, -1 << 62, -1 << 63} }

// badCounts returns what cannot be shuffled.
func badCounts() []int { return []int{-1, -2, 4097, 4098, 1 << 40, 1<<63 - 1, -1 << 63} }
