package wire_test

import (
	"bytes"
	"encoding/binary"
	"encoding/hex"
	"math"
	"math/big"
	"slices"
	"testing"

	"bandplan/api"
	"bandplan/wire"
)

// The model writes with another implementation of the same group encoding, and reads with numbers of any size.

func modelUint(n int) []byte { return binary.AppendUvarint(nil, uint64(n)) }

func modelInt(n int) []byte { return binary.AppendVarint(nil, int64(n)) }

func modelBytes(b []byte) []byte { return append(modelUint(len(b)), b...) }

func modelInts(l []int) []byte {
	b := modelUint(len(l))
	for _, n := range l {
		b = append(b, modelInt(n)...)
	}
	return b
}

// modelGroups reads a group encoding of a number of so many bits: the number and the bytes that it takes, or an error.
func modelGroups(b []byte, bits int) (*big.Int, int, api.Errno) {
	last := (bits + 6) / 7
	size := 0
	for size < len(b) && size < last && b[size] >= 128 {
		size++
	}
	if size == last {
		return nil, 0, api.ErrFormat
	}
	if size == len(b) {
		return nil, 0, api.ErrShort
	}
	n := new(big.Int)
	for i := size; i >= 0; i-- {
		n.Mul(n, big.NewInt(128)).Add(n, big.NewInt(int64(b[i]&127)))
	}
	if n.BitLen() > bits || size > 0 && b[size] == 0 {
		return nil, 0, api.ErrFormat
	}
	return n, size + 1, api.OK
}

func modelReadUint(b []byte) (int, int, api.Errno) {
	n, size, e := modelGroups(b, 63)
	if e != api.OK {
		return 0, 0, e
	}
	return int(n.Int64()), size, e
}

func modelReadInt(b []byte) (int, int, api.Errno) {
	n, size, e := modelGroups(b, 64)
	if e != api.OK {
		return 0, 0, e
	}
	half := new(big.Int).Rsh(n, 1)
	if n.Bit(0) == 1 {
		half.Not(half)
	}
	return int(half.Int64()), size, e
}

// modelReadCount reads a number that is at most a limit.
func modelReadCount(b []byte, limit int) (int, int, api.Errno) {
	n, size, e := modelReadUint(b)
	switch {
	case e != api.OK:
		return 0, 0, e
	case limit < 0:
		return 0, 0, api.ErrArg
	case n > limit:
		return 0, 0, api.ErrFull
	}
	return n, size, api.OK
}

func modelReadBytes(b []byte, limit int) ([]byte, int, api.Errno) {
	n, size, e := modelReadCount(b, limit)
	if e == api.OK && n > len(b)-size {
		e = api.ErrShort
	}
	if e != api.OK {
		return nil, 0, e
	}
	return b[size : size+n], size + n, api.OK
}

func modelReadInts(b []byte, limit int) ([]int, int, api.Errno) {
	n, at, e := modelReadCount(b, limit)
	var l []int
	for e == api.OK && len(l) < n {
		var element, size int
		element, size, e = modelReadInt(b[at:])
		l, at = append(l, element), at+size
	}
	if e != api.OK {
		return nil, 0, e
	}
	return l, at, api.OK
}

// numbers returns numbers at the ends of what fits in so many bits.
func numbers() []int {
	list := []int{0, 300, -300, math.MaxInt, math.MinInt, math.MaxInt - 1, math.MinInt + 1}
	for bits := range 63 {
		for _, n := range []int{1<<bits - 1, 1 << bits, 1<<bits + 1} {
			list = append(list, n, -n)
		}
	}
	return list
}

// inputs returns all strings of at most four of some bytes, and those with long numbers at their beginnings.
func inputs() [][]byte {
	few := []byte{0x00, 0x01, 0x02, 0x03, 0x7f, 0x80, 0x81, 0xff}
	list := [][]byte{nil}
	for first := 0; len(list[first]) < 4; first++ {
		for _, c := range few {
			list = append(list, append(bytes.Clone(list[first]), c))
		}
	}
	for n := range 13 {
		for _, c := range []byte{0x80, 0x81, 0xff} {
			for _, d := range few {
				long := append(bytes.Repeat([]byte{c}, n), d)
				list = append(list, long, append(bytes.Clone(long), 0x01))
			}
		}
	}
	return list
}

// written returns the encoding of what a function writes, which must be possible.
func written(t *testing.T, write func(w *wire.Writer)) []byte {
	t.Helper()
	var w wire.Writer
	write(&w)
	b, e := w.End()
	if e != api.OK {
		t.Fatalf("End: %v", e)
	}
	return b
}

// expectForm checks the encoding of what a function writes, alone and after other values.
func expectForm(t *testing.T, name string, want []byte, write func(w *wire.Writer)) {
	t.Helper()
	if b := written(t, write); !bytes.Equal(b, want) {
		t.Errorf("%s: %x, want %x", name, b, want)
	}
	second := written(t, func(w *wire.Writer) { w.Uint(300); write(w); w.Bool(true) })
	if !bytes.Equal(second, slices.Concat([]byte{0xac, 0x02}, want, []byte{1})) {
		t.Errorf("%s after a number: %x", name, second)
	}
}

// expectRefused checks that a writer has a first error and that nothing helps after it.
func expectRefused(t *testing.T, name string, want api.Errno, write func(w *wire.Writer)) {
	t.Helper()
	var w wire.Writer
	w.Uint(1)
	write(&w)
	for range 3 {
		if b, e := w.End(); len(b) != 0 || e != want {
			t.Errorf("%s: %d bytes, %v", name, len(b), e)
		}
		writeAll(&w)
	}
}

// writeAll calls all methods that write, also with a value that cannot be written.
func writeAll(w *wire.Writer) {
	w.Uint(1)
	w.Int(-1)
	w.Bool(true)
	w.Bytes([]byte{1})
	w.String("a")
	w.Ints([]int{1})
	w.Bytes(make([]byte, api.MaxBytes))
	w.Uint(-1)
}

// expectState checks the offset and the first error of a reader, and that looking at them changes nothing.
func expectState(t *testing.T, name string, r *wire.Reader, at int, want api.Errno, left bool) {
	t.Helper()
	end := want
	if want == api.OK && left {
		end = api.ErrLong
	}
	for range 2 {
		if r.At() != at || r.Err() != want || r.End() != end {
			t.Errorf("%s: at %d, %v and %v, want %d, %v and %v", name, r.At(), r.Err(), r.End(), at, want, end)
		}
	}
}

// expectNothing checks that all that is read is the zero value, and that the state remains.
func expectNothing(t *testing.T, name string, r *wire.Reader) {
	t.Helper()
	at, e := r.At(), r.Err()
	if r.Uint() != 0 || r.Int() != 0 || r.Bool() || r.Count(9) != 0 || r.Count(-1) != 0 {
		t.Errorf("%s: a number is read", name)
	}
	if len(r.Bytes(9)) != 0 || r.String(9) != "" || len(r.Ints(9)) != 0 || len(r.Ints(-1)) != 0 {
		t.Errorf("%s: a string is read", name)
	}
	if r.At() != at || r.Err() != e || r.End() != e {
		t.Errorf("%s: at %d, %v and %v", name, r.At(), r.Err(), r.End())
	}
}

// expectRead checks a value that has been read at offset 1 of a reader of bytes behind one other value: where the reader is then, and that an error lasts.
func expectRead(t *testing.T, name string, r *wire.Reader, b []byte, size int, want api.Errno) {
	t.Helper()
	expectState(t, name, r, 1+size, want, size < len(b))
	if want != api.OK {
		expectNothing(t, name, r)
		r.Fail(api.ErrCheck)
		expectState(t, name, r, 1, want, true)
	}
}

// behind returns a reader of bytes that has read one value before them.
func behind(t *testing.T, b []byte) *wire.Reader {
	t.Helper()
	r := wire.Read(append([]byte{7}, b...))
	if r.Uint() != 7 || r.At() != 1 {
		t.Fatal("the first value")
	}
	return r
}

// draw is a source of numbers: the next one is below a limit.
type draw uint64

func (d *draw) below(limit int) int {
	*d = *d*6364136223846793005 + 1442695040888963407
	return int(uint64(*d) >> 33 % uint64(limit))
}

// wide returns a number of a random number of bits, with a sign.
func (d *draw) wide() int {
	n := d.below(1<<30)<<33 | d.below(1<<30)<<3 | d.below(8)
	n >>= d.below(63)
	if d.below(2) == 1 {
		return ^n
	}
	return n
}

func (d *draw) text(n int) []byte {
	b := make([]byte, n)
	for i := range b {
		b[i] = byte(d.below(256))
	}
	return b
}

// roomy returns a copy of bytes with other bytes behind its end, which nobody may touch.
func roomy(b []byte) []byte {
	return append(bytes.Clone(b), bytes.Repeat([]byte{0xa5}, 100)...)[:len(b)]
}

// untouched tells whether the bytes behind the end are as roomy has made them.
func untouched(b []byte) bool {
	return bytes.Equal(b[len(b):len(b)+100], bytes.Repeat([]byte{0xa5}, 100))
}

func fromHex(text string) []byte {
	b, err := hex.DecodeString(text)
	if err != nil {
		panic(err)
	}
	return b
}
