package wire_test

import (
	"bytes"
	"fmt"
	"math"
	"slices"
	"strings"
	"testing"

	"bandplan/api"
	"bandplan/wire"
)

// P6.1

// TestChapterForms has the encodings of the chapter's examples.
func TestChapterForms(t *testing.T) {
	for n, want := range map[int]string{0: "00", 127: "7f", 128: "8001", 300: "ac02", math.MaxInt: "ffffffffffffffff7f"} {
		expectForm(t, fmt.Sprint("Uint ", n), fromHex(want), func(w *wire.Writer) { w.Uint(n) })
	}
	for n, want := range map[int]string{0: "00", -1: "01", 1: "02", -64: "7f", 64: "8001", math.MinInt: "ffffffffffffffffff01"} {
		expectForm(t, fmt.Sprint("Int ", n), fromHex(want), func(w *wire.Writer) { w.Int(n) })
	}
	expectForm(t, "Bool", fromHex("01"), func(w *wire.Writer) { w.Bool(true) })
	expectForm(t, "String", fromHex("026162"), func(w *wire.Writer) { w.String("ab") })
	expectForm(t, "Ints", fromHex("020201"), func(w *wire.Writer) { w.Ints([]int{1, -1}) })
}

func TestNumberForms(t *testing.T) {
	for _, n := range numbers() {
		expectForm(t, fmt.Sprint("Int ", n), modelInt(n), func(w *wire.Writer) { w.Int(n) })
		if n >= 0 {
			expectForm(t, fmt.Sprint("Uint ", n), modelUint(n), func(w *wire.Writer) { w.Uint(n) })
		} else {
			expectRefused(t, fmt.Sprint("Uint ", n), api.ErrArg, func(w *wire.Writer) { w.Uint(n) })
		}
	}
	for n := range 70000 {
		if b := written(t, func(w *wire.Writer) { w.Uint(n); w.Int(n); w.Int(-n) }); !bytes.Equal(b, slices.Concat(modelUint(n), modelInt(n), modelInt(-n))) {
			t.Fatalf("%d: %x", n, b)
		}
	}
}

func TestBoolForms(t *testing.T) {
	expectForm(t, "true", []byte{1}, func(w *wire.Writer) { w.Bool(true) })
	expectForm(t, "false", []byte{0}, func(w *wire.Writer) { w.Bool(false) })
}

func TestStringForms(t *testing.T) {
	d := draw(1)
	for _, n := range []int{0, 1, 2, 126, 127, 128, 129, 300, 16383, 16384, 16385, 65000} {
		b := d.text(n)
		expectForm(t, fmt.Sprint("Bytes of ", n), modelBytes(b), func(w *wire.Writer) { w.Bytes(b) })
		expectForm(t, fmt.Sprint("String of ", n), modelBytes(b), func(w *wire.Writer) { w.String(string(b)) })
	}
	expectForm(t, "bytes that are no text", fromHex("04ff00c080"), func(w *wire.Writer) { w.String("\xff\x00\xc0\x80") })
}

func TestListForms(t *testing.T) {
	d := draw(2)
	for _, n := range []int{0, 1, 2, 127, 128, 129, 1000} {
		l := make([]int, n)
		for i := range l {
			l[i] = d.wide()
		}
		expectForm(t, fmt.Sprint("Ints of ", n), modelInts(l), func(w *wire.Writer) { w.Ints(l) })
	}
	expectForm(t, "all numbers", modelInts(numbers()), func(w *wire.Writer) { w.Ints(numbers()) })
}

// full returns a writer with an encoding to which so many bytes can be added.
func full(t *testing.T, left int) *wire.Writer {
	t.Helper()
	var w wire.Writer
	w.String(strings.Repeat("x", 60000))
	for range api.MaxBytes - 60003 - left {
		w.Bool(true)
	}
	if b, e := w.End(); len(b) != api.MaxBytes-left || e != api.OK {
		t.Fatalf("%d bytes, %v", len(b), e)
	}
	return &w
}

// TestFull writes values to encodings in which there is just enough room, and one byte too few.
func TestFull(t *testing.T) {
	for name, write := range map[string]func(w *wire.Writer){
		"Uint of 1":       func(w *wire.Writer) { w.Uint(1) },
		"Uint of 2":       func(w *wire.Writer) { w.Uint(128) },
		"Uint of 9":       func(w *wire.Writer) { w.Uint(math.MaxInt) },
		"Int of 1":        func(w *wire.Writer) { w.Int(-1) },
		"Int of 10":       func(w *wire.Writer) { w.Int(math.MinInt) },
		"true":            func(w *wire.Writer) { w.Bool(true) },
		"false":           func(w *wire.Writer) { w.Bool(false) },
		"Bytes of none":   func(w *wire.Writer) { w.Bytes(nil) },
		"Bytes of 5":      func(w *wire.Writer) { w.Bytes(make([]byte, 5)) },
		"Bytes of 200":    func(w *wire.Writer) { w.Bytes(make([]byte, 200)) },
		"String of none":  func(w *wire.Writer) { w.String("") },
		"String of 5":     func(w *wire.Writer) { w.String("abcde") },
		"Ints of none":    func(w *wire.Writer) { w.Ints(nil) },
		"Ints of 3":       func(w *wire.Writer) { w.Ints([]int{1, 2, 3}) },
		"Ints of 2, long": func(w *wire.Writer) { w.Ints([]int{0, math.MinInt}) },
	} {
		value := written(t, write)
		for left := range len(value) + 3 {
			w := full(t, left)
			before, _ := w.End()
			write(w)
			b, e := w.End()
			if left >= len(value) && (e != api.OK || !bytes.Equal(b, append(before, value...))) {
				t.Errorf("%s with %d bytes left: %d bytes, %v", name, left, len(b), e)
			}
			if left < len(value) && (e != api.ErrFull || len(b) != 0) {
				t.Errorf("%s with %d bytes left: %d bytes, %v", name, left, len(b), e)
			}
		}
	}
}

// TestLongest writes one value that fills the whole encoding, and one that is longer.
func TestLongest(t *testing.T) {
	for _, n := range []int{65533, 65532, 16384} {
		b := bytes.Repeat([]byte{3}, n)
		l := make([]int, n)
		for i := range l {
			l[i] = -2
		}
		want := append(modelUint(n), b...)
		e := api.OK
		if n+3 > api.MaxBytes {
			want, e = nil, api.ErrFull
		}
		var first, second, third wire.Writer
		first.Bytes(b)
		second.String(string(b))
		third.Ints(l)
		for i, w := range []*wire.Writer{&first, &second, &third} {
			if got, f := w.End(); !bytes.Equal(got, want) || f != e {
				t.Errorf("%d, %d: %d bytes, %v", n, i, len(got), f)
			}
		}
	}
}

func TestTooLong(t *testing.T) {
	for _, n := range []int{65534, 65535, 65536, 65537, 70000, 1 << 22} {
		name := fmt.Sprint(n)
		expectRefused(t, "Bytes of "+name, api.ErrFull, func(w *wire.Writer) { w.Bytes(make([]byte, n)) })
		expectRefused(t, "String of "+name, api.ErrFull, func(w *wire.Writer) { w.String(string(make([]byte, n))) })
		expectRefused(t, "Ints of "+name, api.ErrFull, func(w *wire.Writer) { w.Ints(make([]int, n)) })
	}
	wide := slices.Repeat([]int{math.MaxInt}, 7000)
	expectRefused(t, "Ints of 10 bytes each", api.ErrFull, func(w *wire.Writer) { w.Ints(wide) })
}

// TestFirstErrorOfWriter has several errors, of which the first one remains, and a number below 0 with no room for it.
func TestFirstErrorOfWriter(t *testing.T) {
	long := make([]byte, api.MaxBytes)
	expectRefused(t, "ErrArg, ErrFull", api.ErrArg, func(w *wire.Writer) { w.Uint(-1); w.Bytes(long) })
	expectRefused(t, "ErrFull, ErrArg", api.ErrFull, func(w *wire.Writer) { w.Bytes(long); w.Uint(-1) })
	expectRefused(t, "ErrFull, a short value", api.ErrFull, func(w *wire.Writer) { w.String(string(long)); w.Bool(true) })
	w := full(t, 0)
	w.Uint(-1)
	if b, e := w.End(); len(b) != 0 || e != api.ErrArg {
		t.Errorf("a number below 0 in a full encoding: %d bytes, %v", len(b), e)
	}
}

// TestEndOfWriter asks for the encoding after each value.
func TestEndOfWriter(t *testing.T) {
	var w wire.Writer
	var want []byte
	for n := range 500 {
		for range 2 {
			if b, e := w.End(); !bytes.Equal(b, want) || e != api.OK {
				t.Fatalf("%d values: %x %v", n, b, e)
			}
		}
		w.Int(n - 250)
		want = append(want, modelInt(n-250)...)
	}
}

// TestZeroWriter has an empty encoding and is ready to use.
func TestZeroWriter(t *testing.T) {
	var w wire.Writer
	if b, e := w.End(); len(b) != 0 || e != api.OK {
		t.Errorf("%x %v", b, e)
	}
	w.Uint(5)
	if b, e := w.End(); !bytes.Equal(b, []byte{5}) || e != api.OK {
		t.Errorf("%x %v", b, e)
	}
}

func TestNilWriter(t *testing.T) {
	var none *wire.Writer
	for range 2 {
		if b, e := none.End(); len(b) != 0 || e != api.ErrNil {
			t.Errorf("%x %v", b, e)
		}
		writeAll(none)
	}
}
