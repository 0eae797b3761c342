package blake

import "math/bits"

// lastMark marks the last block.
const lastMark = 0xffffffff

var initialWords = [8]uint32{0x6a09e667, 0xbb67ae85, 0x3c6ef372, 0xa54ff53a, 0x510e527f, 0x9b05688c, 0x1f83d9ab, 0x5be0cd19}

// rows holds the order of the words of a block in each round.
var rows = [10][16]uint8{
	{0, 1, 2, 3, 4, 5, 6, 7, 8, 9, 10, 11, 12, 13, 14, 15},
	{14, 10, 4, 8, 9, 15, 13, 6, 1, 12, 0, 2, 11, 7, 5, 3},
	{11, 8, 12, 0, 5, 2, 15, 13, 10, 14, 3, 6, 7, 1, 9, 4},
	{7, 9, 3, 1, 13, 12, 11, 14, 2, 6, 5, 10, 4, 0, 15, 8},
	{9, 0, 5, 7, 2, 4, 10, 15, 14, 1, 11, 12, 6, 8, 3, 13},
	{2, 12, 6, 10, 0, 11, 8, 3, 4, 13, 7, 5, 15, 14, 1, 9},
	{12, 5, 1, 15, 14, 13, 4, 10, 0, 7, 6, 3, 9, 2, 8, 11},
	{13, 11, 7, 14, 12, 1, 3, 9, 5, 0, 15, 4, 8, 6, 2, 10},
	{6, 15, 14, 9, 11, 3, 0, 8, 12, 2, 13, 7, 1, 4, 10, 5},
	{10, 2, 8, 4, 7, 6, 1, 5, 15, 11, 9, 14, 3, 12, 13, 0},
}

// compress returns the state after a block of Block bytes; t is the number of bytes of the message up to its end, and mark is lastMark or 0.
func compress(state [8]uint32, block []byte, t uint64, mark uint32) [8]uint32 {
	var v [16]uint32
	copy(v[:8], state[:])
	for i, word := range initialWords {
		v[8+i] = word
	}
	v[12] ^= uint32(t)
	v[13] ^= uint32(t >> 32)
	v[14] ^= mark
	m := wordsOf(block)
	for _, row := range rows {
		mix(&v, 0, 4, 8, 12, m[row[0]], m[row[1]])
		mix(&v, 1, 5, 9, 13, m[row[2]], m[row[3]])
		mix(&v, 2, 6, 10, 14, m[row[4]], m[row[5]])
		mix(&v, 3, 7, 11, 15, m[row[6]], m[row[7]])
		mix(&v, 0, 5, 10, 15, m[row[8]], m[row[9]])
		mix(&v, 1, 6, 11, 12, m[row[10]], m[row[11]])
		mix(&v, 2, 7, 8, 13, m[row[12]], m[row[13]])
		mix(&v, 3, 4, 9, 14, m[row[14]], m[row[15]])
	}
	for i := range state {
		state[i] ^= v[i] ^ v[8+i]
	}
	return state
}

// mix is the function G of four words of v.
func mix(v *[16]uint32, a, b, c, d int, x, y uint32) {
	// Rotations to the right are rotations to the left by negative numbers.
	v[a] += v[b] + x
	v[d] = bits.RotateLeft32(v[d]^v[a], -16)
	v[c] += v[d]
	v[b] = bits.RotateLeft32(v[b]^v[c], -12)
	v[a] += v[b] + y
	v[d] = bits.RotateLeft32(v[d]^v[a], -8)
	v[c] += v[d]
	v[b] = bits.RotateLeft32(v[b]^v[c], -7)
}

func wordsOf(block []byte) [16]uint32 {
	var words [16]uint32
	for i := range words {
		b := block[4*i : 4*i+4 : 4*i+4]
		words[i] = uint32(b[0]) | uint32(b[1])<<8 | uint32(b[2])<<16 | uint32(b[3])<<24
	}
	return words
}

func bytesOf(state [8]uint32) [Size]byte {
	var b [Size]byte
	for i, word := range state {
		for k := range 4 {
			b[4*i+k] = byte(word >> (8 * k))
		}
	}
	return b
}
