package wire_test

import (
	"bytes"
	"fmt"
	"math"
	"slices"
	"testing"

	"bandplan/api"
	"bandplan/wire"
)

// P6.6

// value is a value of one of the six kinds.
type value struct {
	kind, number int
	text         []byte
	list         []int
}

// values returns random values that have an encoding together.
func values(d *draw, n int) []value {
	list := make([]value, n)
	for i := range list {
		v := value{kind: d.below(6), number: d.wide(), text: d.text(d.below(200))}
		for range d.below(10) {
			v.list = append(v.list, d.wide())
		}
		if v.kind == 0 && v.number < 0 {
			v.number = ^v.number
		}
		list[i] = v
	}
	return list
}

func (v value) write(w *wire.Writer) {
	switch v.kind {
	case 0:
		w.Uint(v.number)
	case 1:
		w.Int(v.number)
	case 2:
		w.Bool(v.number < 0)
	case 3:
		w.Bytes(v.text)
	case 4:
		w.String(string(v.text))
	case 5:
		w.Ints(v.list)
	}
}

// read tells whether the next value is this one.
func (v value) read(r *wire.Reader) bool {
	switch v.kind {
	case 0:
		return r.Uint() == v.number
	case 1:
		return r.Int() == v.number
	case 2:
		return r.Bool() == (v.number < 0)
	case 3:
		return bytes.Equal(r.Bytes(len(v.text)), v.text)
	case 4:
		return r.String(len(v.text)) == string(v.text)
	}
	return slices.Equal(r.Ints(len(v.list)), v.list)
}

func TestReadOfWritten(t *testing.T) {
	d := draw(6)
	for n := range 200 {
		list := values(&d, n)
		b := written(t, func(w *wire.Writer) {
			for _, v := range list {
				v.write(w)
			}
		})
		r := wire.Read(b)
		for i, v := range list {
			at := r.At()
			if !v.read(r) || r.Err() != api.OK || r.At() <= at {
				t.Fatalf("value %d of %d: %v at %d", i, n, r.Err(), r.At())
			}
		}
		expectState(t, "the end", r, len(b), api.OK, false)
	}
}

// copyValue reads a value of a kind and writes it again.
func copyValue(kind int, r *wire.Reader, w *wire.Writer) {
	switch kind {
	case 0:
		w.Uint(r.Uint())
	case 1:
		w.Int(r.Int())
	case 2:
		w.Bool(r.Bool())
	case 3:
		w.Bytes(r.Bytes(math.MaxInt))
	case 4:
		w.String(r.String(math.MaxInt))
	case 5:
		w.Ints(r.Ints(math.MaxInt))
	case 6:
		w.Uint(r.Count(math.MaxInt))
	}
}

// TestWriteOfRead reads bytes that nobody has written: those that are read completely are what is written again.
func TestWriteOfRead(t *testing.T) {
	few := fromHex("00000000010101010202030304057f808081ff")
	complete := 0
	d := draw(7)
	for range 300000 {
		b := make([]byte, d.below(12))
		for i := range b {
			b[i] = few[d.below(len(few))]
		}
		r := wire.Read(b)
		var w wire.Writer
		for r.End() == api.ErrLong {
			copyValue(d.below(7), r, &w)
		}
		if r.End() != api.OK {
			continue
		}
		complete++
		if again, e := w.End(); !bytes.Equal(again, b) || e != api.OK {
			t.Fatalf("%x becomes %x, %v", b, again, e)
		}
	}
	if complete < 10000 {
		t.Errorf("only %d inputs are read completely", complete)
	}
}

// TestOneForm reads all inputs as one number each: no number has two of them.
func TestOneForm(t *testing.T) {
	unsigned, signed := map[int]string{}, map[int]string{}
	for _, b := range inputs() {
		r, q := wire.Read(b), wire.Read(b)
		n, m := r.Uint(), q.Int()
		if other, ok := unsigned[n]; r.End() == api.OK && ok && other != string(b) {
			t.Errorf("Uint %d: %x and %x", n, other, b)
		}
		if other, ok := signed[m]; q.End() == api.OK && ok && other != string(b) {
			t.Errorf("Int %d: %x and %x", m, other, b)
		}
		if r.End() == api.OK {
			unsigned[n] = string(b)
		}
		if q.End() == api.OK {
			signed[m] = string(b)
		}
	}
}

func TestUnframeOfFrame(t *testing.T) {
	d := draw(8)
	for range 500 {
		kind, payload := d.wide()&math.MaxInt, d.text(d.below(300))
		b, e := wire.Frame(kind, payload)
		if e != api.OK {
			t.Fatal(e)
		}
		k, p, e := wire.Unframe(b)
		if k != kind || !bytes.Equal(p, payload) || e != api.OK {
			t.Fatalf("%d and %x become %d and %x, %v", kind, payload, k, p, e)
		}
	}
	for _, b := range inputs() {
		if k, p, e := wire.Unframe(b); e == api.OK {
			if again, e := wire.Frame(k, p); !bytes.Equal(again, b) || e != api.OK {
				t.Errorf("%x becomes %x, %v", b, again, e)
			}
		}
	}
}

// The rules of all layers.

// TestArguments holds the rule that arguments are not modified, also beyond their lengths.
func TestArguments(t *testing.T) {
	d := draw(9)
	for _, n := range []int{0, 1, 5, 127, 128, 3000} {
		text := d.text(n)
		b := roomy(text)
		l := append(numbers(), slices.Repeat([]int{-77}, 50)...)[:len(numbers())]
		var w wire.Writer
		w.Bytes(b)
		w.Ints(l)
		wire.Frame(3, b)
		wire.Unframe(b)
		all := roomy(modelBytes(text))
		r := wire.Read(all)
		clear(r.Bytes(n))
		r.Uint()
		if !bytes.Equal(b, text) || !untouched(b) || !bytes.Equal(all, modelBytes(text)) || !untouched(all) {
			t.Fatalf("%d bytes: an argument has changed", n)
		}
		if !slices.Equal(l, numbers()) || !slices.Equal(l[len(l):len(l)+50], slices.Repeat([]int{-77}, 50)) {
			t.Fatal("a list has changed")
		}
	}
}

// TestRetained changes the arguments after the calls.
func TestRetained(t *testing.T) {
	text, l := []byte("some bytes"), []int{1, -2, 300}
	want := append(modelBytes([]byte("some bytes")), modelInts([]int{1, -2, 300})...)
	var w wire.Writer
	w.Bytes(text)
	w.Ints(l)
	given := bytes.Clone(want)
	r := wire.Read(given)
	frame, _ := wire.Frame(1, text)
	clear(text)
	clear(l)
	clear(given)
	if b, e := w.End(); !bytes.Equal(b, want) || e != api.OK {
		t.Errorf("%x %v", b, e)
	}
	if b, l := r.Bytes(10), r.Ints(3); string(b) != "some bytes" || !slices.Equal(l, []int{1, -2, 300}) || r.End() != api.OK {
		t.Errorf("%q %d %v", b, l, r.End())
	}
	if !bytes.Equal(frame, append([]byte{1}, modelBytes([]byte("some bytes"))...)) {
		t.Errorf("%x", frame)
	}
}

// TestResults changes results: neither the objects nor other results have changed.
func TestResults(t *testing.T) {
	var w wire.Writer
	var want []byte
	for n := range 300 {
		w.Uint(n)
		want = append(want, modelUint(n)...)
		first, _ := w.End()
		second, _ := w.End()
		clear(first[:cap(first)])
		if !bytes.Equal(second, want) {
			t.Fatalf("%d numbers: %x", n, second)
		}
		for i := range cap(second) {
			second[:cap(second)][i] = 0xa5
		}
	}
	all := slices.Concat(modelBytes([]byte("abcdef")), modelBytes([]byte("gh")), modelInts([]int{5, 6, 7}), modelInts([]int{8}))
	r := wire.Read(all)
	a := r.Bytes(6)
	clear(a[:cap(a)])
	b := r.Bytes(2)
	l := r.Ints(3)
	clear(l[:cap(l)])
	if m := r.Ints(1); string(b) != "gh" || !slices.Equal(m, []int{8}) || r.End() != api.OK {
		t.Errorf("%q %d %v", b, m, r.End())
	}
	frame := append([]byte{1}, modelBytes([]byte("abc"))...)
	_, p, _ := wire.Unframe(frame)
	clear(p[:cap(p)])
	if k, again, e := wire.Unframe(frame); k != 1 || string(again) != "abc" || e != api.OK {
		t.Errorf("%d %q %v", k, again, e)
	}
}

// TestNilAndEmpty holds the rule that nil and empty slices are equivalent.
func TestNilAndEmpty(t *testing.T) {
	expectForm(t, "nil bytes", []byte{0}, func(w *wire.Writer) { w.Bytes(nil) })
	expectForm(t, "no bytes", []byte{0}, func(w *wire.Writer) { w.Bytes([]byte{}) })
	expectForm(t, "a nil list", []byte{0}, func(w *wire.Writer) { w.Ints(nil) })
	expectForm(t, "no elements", []byte{0}, func(w *wire.Writer) { w.Ints([]int{}) })
	for _, payload := range [][]byte{nil, {}} {
		if b, e := wire.Frame(2, payload); !bytes.Equal(b, []byte{2, 0}) || e != api.OK {
			t.Errorf("%x %v", b, e)
		}
	}
	for _, b := range [][]byte{nil, {}} {
		if k, p, e := wire.Unframe(b); k != 0 || len(p) != 0 || e != api.ErrShort {
			t.Errorf("%d %x %v", k, p, e)
		}
	}
}

// TestObjectsAlone has several writers and readers that take turns.
func TestObjectsAlone(t *testing.T) {
	var writers [5]wire.Writer
	for n := range 100 {
		for i := range writers {
			writers[i].Int(n * i)
		}
		writers[4].Uint(-1)
	}
	var readers []*wire.Reader
	for i := range 4 {
		b, e := writers[i].End()
		if e != api.OK {
			t.Fatal(e)
		}
		readers = append(readers, wire.Read(b))
	}
	readers[3].Fail(api.ErrCheck)
	for n := range 100 {
		for i, r := range readers[:3] {
			if m := r.Int(); m != n*i || r.Err() != api.OK {
				t.Fatalf("number %d of %d: %d, %v", n, i, m, r.Err())
			}
		}
	}
}

// TestEqualCalls makes the same calls again, with others and with errors between them.
func TestEqualCalls(t *testing.T) {
	for _, b := range inputs() {
		kind, payload, e := wire.Unframe(b)
		r := wire.Read(b)
		name := fmt.Sprintf("%x", b)
		l, at, f := r.Ints(5), r.At(), r.Err()
		wire.Unframe(fromHex("050178"))
		wire.Read([]byte{0x80}).Uint()
		q := wire.Read(bytes.Clone(b))
		if again := q.Ints(5); !slices.Equal(again, l) || q.At() != at || q.Err() != f {
			t.Errorf("%s is read in two ways", name)
		}
		if k, p, g := wire.Unframe(bytes.Clone(b)); k != kind || !bytes.Equal(p, payload) || g != e {
			t.Errorf("%s is unframed in two ways", name)
		}
	}
}
