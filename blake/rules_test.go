package blake_test

import (
	"bytes"
	"slices"
	"testing"

	"bandplan/api"
	"bandplan/blake"
)

// P4.4

// TestTwoParts divides strings at each place.
func TestTwoParts(t *testing.T) {
	for _, key := range [][]byte{nil, counting(32)} {
		for _, n := range []int{0, 1, 63, 64, 65, 128, 129, 200, 260} {
			b := noise(n, 21)
			for cut := range n + 1 {
				h := begin(t, key)
				write(t, h, b[:cut], b[cut:])
				expect(t, "two parts", h, key, b)
			}
		}
	}
}

// TestThreeParts divides strings at two places around the ends of blocks.
func TestThreeParts(t *testing.T) {
	b := noise(321, 22)
	for _, first := range []int{0, 1, 63, 64, 65, 127, 128, 129} {
		for second := first; second <= len(b); second++ {
			h := begin(t, nil)
			write(t, h, b[:first], b[first:second], b[second:])
			expect(t, "three parts", h, nil, b)
		}
	}
}

// TestEqualParts writes parts of one length after each other.
func TestEqualParts(t *testing.T) {
	b := noise(1000, 23)
	for _, key := range [][]byte{nil, {1, 2, 3}} {
		for size := 1; size <= 200; size++ {
			h := begin(t, key)
			for part := range slices.Chunk(b, size) {
				write(t, h, part)
			}
			expect(t, "equal parts", h, key, b)
		}
	}
}

// TestUnequalParts writes parts of many lengths, some of them empty.
func TestUnequalParts(t *testing.T) {
	b := noise(5000, 24)
	for seed := range uint32(100) {
		h := begin(t, counting(int(seed%33)))
		rest := b
		for i, size := range noise(5000, seed) {
			if i%5 == 0 {
				size = 64 * (size % 4)
			}
			n := min(int(size), len(rest))
			write(t, h, rest[:n])
			rest = rest[n:]
		}
		expect(t, "unequal parts", h, counting(int(seed%33)), b)
	}
}

// TestDifferentMessages has messages and keys that would be the same if the key, its length, the length of the message or the mark of the last block did not count.
func TestDifferentMessages(t *testing.T) {
	seen := map[[32]byte]string{}
	add := func(name string, sum [32]byte) {
		if other, ok := seen[sum]; ok {
			t.Error(name, "has the hash of", other)
		}
		seen[sum] = name
	}
	block := append([]byte{7}, make([]byte, 63)...)
	add("the block of a key as a message", blake.Sum(block))
	for n := range 130 {
		add("zero bytes", blake.Sum(make([]byte, n)))
	}
	for n := 1; n <= 32; n++ {
		key := append([]byte{7}, make([]byte, n-1)...)
		for _, b := range [][]byte{nil, {0}, block[1:], block} {
			sum, e := blake.Keyed(key, b)
			if e != api.OK {
				t.Fatal(e)
			}
			add("a key with zero bytes at its end", sum)
		}
	}
	for i := range 64 * 8 {
		changed := make([]byte, 64)
		changed[i/8] = 1 << (i % 8)
		add("one bit", blake.Sum(changed))
	}
}

// TestArguments holds the rule that arguments are neither modified nor retained, also beyond their lengths.
func TestArguments(t *testing.T) {
	for _, n := range lengths() {
		key, b := noise(40, 25), noise(n+100, 26)
		h := begin(t, key[:20])
		write(t, h, b[:n])
		c := h.Copy()
		blake.Sum(b[:n])
		blake.Keyed(key[:20], b[:n])
		if !bytes.Equal(key, noise(40, 25)) || !bytes.Equal(b, noise(n+100, 26)) {
			t.Fatal("an argument has changed")
		}
		clear(key)
		clear(b)
		expect(t, "after its arguments have changed", h, noise(20, 25), noise(n, 26))
		expect(t, "copy after the arguments have changed", c, noise(20, 25), noise(n, 26))
	}
}

// TestEqualCalls makes the same calls again, with others between them.
func TestEqualCalls(t *testing.T) {
	for _, n := range lengths() {
		b, key := noise(n, 27), noise(1+n%32, 29)
		first := blake.Sum(b)
		keyed, e := blake.Keyed(key, b)
		blake.Sum(noise(77, 28))
		blake.Keyed(counting(32), counting(99))
		again, f := blake.Keyed(slices.Clone(key), slices.Clone(b))
		if blake.Sum(slices.Clone(b)) != first || again != keyed || e != f {
			t.Error(n, "bytes have two hashes", e, f)
		}
	}
}

// TestErrorsLeaveOthersAlone has errors between the writes of a computation.
func TestErrorsLeaveOthersAlone(t *testing.T) {
	h := begin(t, counting(4))
	for i := range 20 {
		write(t, h, counting(13))
		blake.New(make([]byte, 33+i))
		blake.Keyed(nil, counting(i))
		for _, n := range none() {
			n.Write(counting(i))
		}
		expect(t, "between errors", h, counting(4), bytes.Repeat(counting(13), i+1))
	}
}

// TestManyComputations goes on with many computations in turns.
func TestManyComputations(t *testing.T) {
	var list []*blake.Hash
	for _, key := range keys() {
		list = append(list, begin(t, key))
	}
	for i := range 30 {
		for k, h := range list {
			write(t, h, noise(i, uint32(k)))
		}
	}
	for k, key := range keys() {
		var b []byte
		for i := range 30 {
			b = append(b, noise(i, uint32(k))...)
		}
		expect(t, "in turns", list[k], key, b)
	}
}
