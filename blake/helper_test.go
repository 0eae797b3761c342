package blake_test

import (
	"encoding/binary"
	"encoding/hex"
	"math/bits"
	"strings"
	"testing"

	"bandplan/api"
	"bandplan/blake"
)

// The model is the definition of the chapter, calculated on the whole message at once.

// modelRows are the rows of the chapter's table, with hexadecimal digits.
var modelRows = []string{
	"0123456789abcdef",
	"ea489fd61c02b753",
	"b8c052fdae367194",
	"7931dcbe265a40f8",
	"905724afe1bc683d",
	"2c6a0b834d75fe19",
	"c51fed4a0763928b",
	"db7ec13950f4862a",
	"6fe9b308c2d714a5",
	"a2847615fb9e3cd0",
}

// modelPlaces are the words to which G is applied in a round.
var modelPlaces = []string{"048c", "159d", "26ae", "37bf", "05af", "16bc", "278d", "349e"}

func modelWords() []uint32 {
	return []uint32{0x6a09e667, 0xbb67ae85, 0x3c6ef372, 0xa54ff53a, 0x510e527f, 0x9b05688c, 0x1f83d9ab, 0x5be0cd19}
}

// modelBlocks divides a message, with the block of its key, into blocks that are filled with zero bytes.
func modelBlocks(key, b []byte) (blocks [][]byte, length int) {
	var message []byte
	if len(key) > 0 {
		message = append(message, key...)
		message = append(message, make([]byte, 64-len(key))...)
	}
	message = append(message, b...)
	length = len(message)
	for len(message) == 0 || len(message)%64 != 0 {
		message = append(message, 0)
	}
	for i := 0; i < len(message); i += 64 {
		blocks = append(blocks, message[i:i+64])
	}
	return blocks, length
}

func digit(text string, i int) int { return strings.IndexByte("0123456789abcdef", text[i]) }

func modelCompress(state []uint32, block []byte, t uint64, last bool) {
	v := append(append([]uint32{}, state...), modelWords()...)
	v[12] ^= uint32(t % (1 << 32))
	v[13] ^= uint32(t / (1 << 32))
	if last {
		v[14] = ^v[14]
	}
	for _, row := range modelRows {
		for i, place := range modelPlaces {
			x := binary.LittleEndian.Uint32(block[4*digit(row, 2*i):])
			y := binary.LittleEndian.Uint32(block[4*digit(row, 2*i+1):])
			modelMix(&v[digit(place, 0)], &v[digit(place, 1)], &v[digit(place, 2)], &v[digit(place, 3)], x, y)
		}
	}
	for i := range state {
		state[i] ^= v[i] ^ v[i+8]
	}
}

func right(word uint32, count int) uint32 { return bits.RotateLeft32(word, 32-count) }

func modelMix(a, b, c, d *uint32, x, y uint32) {
	*a = *a + *b + x
	*d = right(*d^*a, 16)
	*c = *c + *d
	*b = right(*b^*c, 12)
	*a = *a + *b + y
	*d = right(*d^*a, 8)
	*c = *c + *d
	*b = right(*b^*c, 7)
}

// model returns the hash of bytes with a key, or without one if it is empty.
func model(key, b []byte) [32]byte {
	state := modelWords()
	state[0] ^= 0x01010020 + 256*uint32(len(key))
	blocks, length := modelBlocks(key, b)
	for i, block := range blocks {
		last := i == len(blocks)-1
		t := 64 * (i + 1)
		if last {
			t = length
		}
		modelCompress(state, block, uint64(t), last)
	}
	var sum []byte
	for _, word := range state {
		sum = binary.LittleEndian.AppendUint32(sum, word)
	}
	return [32]byte(sum)
}

// counting returns the bytes 0, 1, 2 and so on.
func counting(n int) []byte {
	b := make([]byte, n)
	for i := range b {
		b[i] = byte(i)
	}
	return b
}

// noise returns bytes that repeat nothing in a short time.
func noise(n int, seed uint32) []byte {
	b := make([]byte, n)
	for i := range b {
		seed = seed*1664525 + 1013904223
		b[i] = byte(seed >> 24)
	}
	return b
}

// lengths returns lengths around the ends of blocks.
func lengths() []int {
	return []int{0, 1, 2, 3, 4, 5, 31, 32, 33, 62, 63, 64, 65, 66, 126, 127, 128, 129, 130, 191, 192, 193, 255, 256, 257, 1000}
}

// keys returns keys of all lengths that are allowed, and the empty key, which stands for none.
func keys() [][]byte {
	var list [][]byte
	for n := range 33 {
		list = append(list, noise(n, 99))
	}
	return list
}

// begin returns a computation that must be possible.
func begin(t *testing.T, key []byte) *blake.Hash {
	t.Helper()
	h, e := blake.New(key)
	if h == nil || e != api.OK {
		t.Fatalf("New with a key of %d bytes: %v", len(key), e)
	}
	return h
}

// write must be possible.
func write(t *testing.T, h *blake.Hash, parts ...[]byte) {
	t.Helper()
	for _, part := range parts {
		if e := h.Write(part); e != api.OK {
			t.Fatalf("Write of %d bytes: %v", len(part), e)
		}
	}
}

// expect checks what a computation has hashed so far.
func expect(t *testing.T, name string, h *blake.Hash, key, b []byte) {
	t.Helper()
	if sum, e := h.Sum(); sum != model(key, b) || e != api.OK {
		t.Errorf("%s: key of %d bytes, %d bytes: %x %v", name, len(key), len(b), sum, e)
	}
	if n := h.Len(); n != len(b) {
		t.Errorf("%s: key of %d bytes, %d bytes: Len is %d", name, len(key), len(b), n)
	}
}

// none returns what is not a computation, by name.
func none() map[string]*blake.Hash {
	return map[string]*blake.Hash{"nil": nil, "zero": {}}
}

func digest(text string) [32]byte {
	b, err := hex.DecodeString(text)
	if err != nil {
		panic(err)
	}
	return [32]byte(b)
}
