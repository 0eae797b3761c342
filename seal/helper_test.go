package seal_test

import (
	"bytes"
	"encoding/binary"
	"encoding/hex"
	"slices"
	"testing"

	"bandplan/api"
	"bandplan/blake"
	"bandplan/seal"
)

// The model is the definition of the chapter, byte by byte, with the hashes of layer 4.

func modelKeyed(key, b []byte) []byte {
	hash, e := blake.Keyed(key, b)
	if e != api.OK {
		panic(e)
	}
	return hash[:]
}

// modelByte returns one byte of the key stream.
func modelByte(key, nonce []byte, index int) byte {
	b := binary.BigEndian.AppendUint64(bytes.Clone(nonce), uint64(index/32))
	return modelKeyed(modelKeyed(key, []byte("stream")), b)[index%32]
}

func modelStream(key, nonce []byte, n int) []byte {
	b := []byte{}
	for i := range n {
		b = append(b, modelByte(key, nonce, i))
	}
	return b
}

func modelSeal(key, nonce, plain []byte) []byte {
	b := bytes.Clone(nonce)
	for i, c := range plain {
		b = append(b, c^modelByte(key, nonce, i))
	}
	return append(b, modelKeyed(modelKeyed(key, []byte("tag")), b)[:16]...)
}

// retag returns sealed bytes with the tag that fits what comes before it, as somebody with the key could make them.
func retag(key, sealed []byte) []byte {
	b := bytes.Clone(sealed[:len(sealed)-16])
	return append(b, modelKeyed(modelKeyed(key, []byte("tag")), b)[:16]...)
}

// counting returns n bytes, each of which is one above the byte before it.
func counting(n, first int) []byte {
	b := make([]byte, n)
	for i := range b {
		b[i] = byte(first + i)
	}
	return b
}

// noise returns bytes that repeat nothing in a short time.
func noise(n int, seed uint32) []byte {
	b := make([]byte, n)
	for i := range b {
		seed = seed*1664525 + 1013904223
		b[i] = byte(seed >> 24)
	}
	return b
}

// roomy returns a copy of bytes with other bytes behind its end, which nobody may touch.
func roomy(b []byte) []byte {
	return append(bytes.Clone(b), bytes.Repeat([]byte{0xa5}, 100)...)[:len(b)]
}

// untouched tells whether the bytes behind the end are as roomy has made them.
func untouched(b []byte) bool {
	return bytes.Equal(b[len(b):len(b)+100], bytes.Repeat([]byte{0xa5}, 100))
}

// lengths returns lengths around the ends of blocks of the key stream and of the hash.
func lengths() []int {
	return []int{0, 1, 2, 15, 16, 17, 31, 32, 33, 47, 48, 49, 63, 64, 65, 95, 96, 97, 128, 129, 1000, 8191, 8192, 8193, 8225}
}

// sealed must be possible.
func sealed(t *testing.T, key, nonce, plain []byte) []byte {
	t.Helper()
	b, e := seal.Seal(key, nonce, plain)
	if e != api.OK || len(b) != len(plain)+seal.Overhead {
		t.Fatalf("Seal of %d bytes: %d bytes, %v", len(plain), len(b), e)
	}
	return b
}

// expectOpen checks what sealed bytes contain.
func expectOpen(t *testing.T, name string, key, b, plain []byte) {
	t.Helper()
	if p, e := seal.Open(key, b); !bytes.Equal(p, plain) || e != api.OK {
		t.Errorf("%s: Open of %d bytes: %x %v", name, len(b), p, e)
	}
}

// refuse checks that there is an error and nothing else.
func refuse(t *testing.T, name string, want api.Errno, b []byte, e api.Errno) {
	t.Helper()
	if len(b) != 0 || e != want {
		t.Errorf("%s: %x %v, want the error %v", name, b, e, want)
	}
}

func fromHex(text string) []byte {
	b, err := hex.DecodeString(text)
	if err != nil {
		panic(err)
	}
	return b
}

// wrongKeys returns byte strings that are no keys.
func wrongKeys() [][]byte {
	var list [][]byte
	for n := range 67 {
		if n != 32 {
			list = append(list, noise(n, 5))
		}
	}
	return append(list, nil, make([]byte, 1<<20))
}

// wrongNonces returns byte strings that are no nonces.
func wrongNonces() [][]byte {
	return slices.DeleteFunc(append(wrongKeys(), noise(32, 5)), func(b []byte) bool { return len(b) == 16 })
}
