package wire_test

import (
	"bytes"
	"fmt"
	"math"
	"slices"
	"strings"
	"testing"

	"bandplan/api"
	"bandplan/wire"
)

// P6.2

// numberMethod is a method that reads a number, with the model of it.
type numberMethod struct {
	name  string
	read  func(r *wire.Reader) int
	model func(b []byte) (int, int, api.Errno)
}

func numberMethods() []numberMethod {
	return []numberMethod{{"Uint", (*wire.Reader).Uint, modelReadUint}, {"Int", (*wire.Reader).Int, modelReadInt}}
}

// expectNumber checks what a method reads, and the reader afterwards.
func (m numberMethod) expectNumber(t *testing.T, b []byte, want, size int, e api.Errno) {
	t.Helper()
	name := fmt.Sprintf("%s of %x", m.name, b)
	r := behind(t, b)
	if n := m.read(r); n != want {
		t.Errorf("%s: %d, want %d", name, n, want)
	}
	expectRead(t, name, r, b, size, e)
}

func TestReadNumbers(t *testing.T) {
	for _, m := range numberMethods() {
		for _, b := range inputs() {
			want, size, e := m.model(b)
			m.expectNumber(t, b, want, size, e)
		}
	}
}

// TestReadWrittenNumbers reads each number from its own form, and nothing from any part of it.
func TestReadWrittenNumbers(t *testing.T) {
	for _, n := range numbers() {
		forms := [][]byte{modelUint(n), modelInt(n)}
		for i, m := range numberMethods() {
			if i == 0 && n < 0 {
				continue
			}
			m.expectNumber(t, forms[i], n, len(forms[i]), api.OK)
			for size := range forms[i] {
				m.expectNumber(t, forms[i][:size], 0, 0, api.ErrShort)
			}
		}
	}
}

// TestNumberErrors has the ends of the allowed forms, written out.
func TestNumberErrors(t *testing.T) {
	eight, nine := strings.Repeat("ff", 8), strings.Repeat("ff", 9)
	for _, c := range []struct {
		in               string
		unsigned, signed api.Errno
	}{
		{"", api.ErrShort, api.ErrShort},
		{"80", api.ErrShort, api.ErrShort},
		{"8000", api.ErrFormat, api.ErrFormat},
		{"ff00", api.ErrFormat, api.ErrFormat},
		{"808000", api.ErrFormat, api.ErrFormat},
		{"808001", api.OK, api.OK},
		{eight, api.ErrShort, api.ErrShort},
		{eight + "7f", api.OK, api.OK},
		{eight + "01", api.OK, api.OK},
		{eight + "00", api.ErrFormat, api.ErrFormat},
		{eight + "80", api.ErrFormat, api.ErrShort},
		{nine, api.ErrFormat, api.ErrShort},
		{nine + "00", api.ErrFormat, api.ErrFormat},
		{nine + "01", api.ErrFormat, api.OK},
		{nine + "02", api.ErrFormat, api.ErrFormat},
		{nine + "03", api.ErrFormat, api.ErrFormat},
		{nine + "7f", api.ErrFormat, api.ErrFormat},
		{nine + "80", api.ErrFormat, api.ErrFormat},
		{nine + "81", api.ErrFormat, api.ErrFormat},
		{nine + "8100", api.ErrFormat, api.ErrFormat},
		{strings.Repeat("80", 8) + "01", api.OK, api.OK},
		{strings.Repeat("80", 9) + "01", api.ErrFormat, api.OK},
		{strings.Repeat("80", 9) + "00", api.ErrFormat, api.ErrFormat},
		{strings.Repeat("80", 20), api.ErrFormat, api.ErrFormat},
	} {
		b := fromHex(c.in)
		for i, want := range []api.Errno{c.unsigned, c.signed} {
			m := numberMethods()[i]
			n, size, _ := m.model(b)
			m.expectNumber(t, b, n, size, want)
		}
	}
}

func TestReadBool(t *testing.T) {
	for c := range 256 {
		b := []byte{byte(c), 1}
		name := fmt.Sprintf("Bool of %x", b)
		r := behind(t, b)
		is := r.Bool()
		if c > 1 {
			expectRead(t, name, r, b, 0, api.ErrFormat)
		} else {
			expectRead(t, name, r, b, 1, api.OK)
		}
		if is != (c == 1) {
			t.Errorf("%s: %v", name, is)
		}
	}
	r := behind(t, nil)
	if r.Bool() {
		t.Error("nothing is true")
	}
	expectRead(t, "Bool of nothing", r, nil, 0, api.ErrShort)
}

// limits returns limits below, at and above the numbers that the inputs begin with.
func limits() []int {
	return []int{math.MinInt, -1, 0, 1, 2, 3, 126, 127, 128, 129, 16383, math.MaxInt - 1, math.MaxInt}
}

func TestCount(t *testing.T) {
	for _, b := range inputs() {
		for _, limit := range limits() {
			name := fmt.Sprintf("Count(%d) of %x", limit, b)
			want, size, e := modelReadCount(b, limit)
			r := behind(t, b)
			if n := r.Count(limit); n != want {
				t.Errorf("%s: %d, want %d", name, n, want)
			}
			expectRead(t, name, r, b, size, e)
		}
	}
}

// TestLimitErrors has several errors at once: the number is read first, then the limit is checked, then the rest is read.
func TestLimitErrors(t *testing.T) {
	for _, c := range []struct {
		in    string
		limit int
		want  api.Errno
	}{
		{"", -1, api.ErrShort}, {"80", -1, api.ErrShort}, {"8000", -1, api.ErrFormat}, {"00", -1, api.ErrArg}, {"05", -1, api.ErrArg},
		{"05", 4, api.ErrFull}, {"01", 0, api.ErrFull}, {"05", math.MinInt, api.ErrArg}, {"8000", 4, api.ErrFormat},
		{strings.Repeat("ff", 8) + "7f", math.MaxInt - 1, api.ErrFull},
	} {
		b := fromHex(c.in)
		for name, read := range map[string]func(r *wire.Reader){
			"Count":  func(r *wire.Reader) { r.Count(c.limit) },
			"Bytes":  func(r *wire.Reader) { r.Bytes(c.limit) },
			"String": func(r *wire.Reader) { r.String(c.limit) },
			"Ints":   func(r *wire.Reader) { r.Ints(c.limit) },
		} {
			r := behind(t, b)
			read(r)
			expectRead(t, fmt.Sprintf("%s(%d) of %s", name, c.limit, c.in), r, b, 0, c.want)
		}
	}
}

// P6.3

// expectText checks what Bytes and String read with a limit, and the reader afterwards.
func expectText(t *testing.T, b []byte, limit int, want []byte, size int, e api.Errno) {
	t.Helper()
	name := fmt.Sprintf("with the limit %d of %d bytes %.20x", limit, len(b), b)
	r := behind(t, b)
	if got := r.Bytes(limit); !bytes.Equal(got, want) {
		t.Errorf("Bytes %s: %d bytes %.20x", name, len(got), got)
	}
	expectRead(t, "Bytes "+name, r, b, size, e)
	r = behind(t, b)
	if got := r.String(limit); got != string(want) {
		t.Errorf("String %s: %d bytes %.20x", name, len(got), got)
	}
	expectRead(t, "String "+name, r, b, size, e)
}

// expectList checks what Ints reads with a limit, and the reader afterwards.
func expectList(t *testing.T, b []byte, limit int, want []int, size int, e api.Errno) {
	t.Helper()
	name := fmt.Sprintf("Ints with the limit %d of %d bytes %.20x", limit, len(b), b)
	r := behind(t, b)
	if got := r.Ints(limit); !slices.Equal(got, want) {
		t.Errorf("%s: %d elements", name, len(got))
	}
	expectRead(t, name, r, b, size, e)
}

func TestReadStringsAndLists(t *testing.T) {
	for _, b := range inputs() {
		for _, limit := range limits() {
			text, size, e := modelReadBytes(b, limit)
			expectText(t, b, limit, text, size, e)
			list, size, e := modelReadInts(b, limit)
			expectList(t, b, limit, list, size, e)
		}
	}
}

// TestLongStrings reads strings whose numbers of bytes take up to three bytes, with limits around them, and parts of them.
func TestLongStrings(t *testing.T) {
	d := draw(3)
	for _, n := range []int{127, 128, 300, 16384, api.MaxBytes, 200000} {
		text := d.text(n)
		b := modelBytes(text)
		for _, limit := range []int{n, n + 1, math.MaxInt} {
			expectText(t, b, limit, text, len(b), api.OK)
		}
		expectText(t, b, n-1, nil, 0, api.ErrFull)
		expectText(t, b[:len(b)-1], n, nil, 0, api.ErrShort)
	}
}

func TestLongLists(t *testing.T) {
	d := draw(4)
	for _, n := range []int{127, 128, 300, 16384, 70000} {
		list := make([]int, n)
		for i := range list {
			list[i] = d.wide()
		}
		b := modelInts(list)
		expectList(t, b, n, list, len(b), api.OK)
		expectList(t, b, n-1, nil, 0, api.ErrFull)
		expectList(t, b[:len(b)-1], n, nil, 0, api.ErrShort)
	}
}

// TestHugeCounts names more bytes and elements than any input has: the elements that are there are still looked at.
func TestHugeCounts(t *testing.T) {
	for _, n := range []int{1000, 1 << 31, 1 << 50, 1<<60 + 1, math.MaxInt} {
		for _, rest := range []struct {
			in            string
			strings, list api.Errno
		}{
			{"", api.ErrShort, api.ErrShort}, {"0102", api.ErrShort, api.ErrShort}, {"01028000", api.ErrShort, api.ErrFormat}, {"010280", api.ErrShort, api.ErrShort},
		} {
			b := append(modelUint(n), fromHex(rest.in)...)
			expectText(t, b, math.MaxInt, nil, 0, rest.strings)
			expectText(t, b, n, nil, 0, rest.strings)
			expectList(t, b, n, nil, 0, rest.list)
		}
	}
}

// P6.4

func TestFail(t *testing.T) {
	for _, e := range []api.Errno{api.ErrNil, api.ErrArg, api.ErrLong, api.ErrCheck, api.ErrBusy, 70, -3, math.MaxInt} {
		r := behind(t, []byte{1, 1, 1})
		r.Fail(api.OK)
		if n := r.Uint(); n != 1 {
			t.Errorf("Fail(OK): %d", n)
		}
		r.Fail(e)
		expectState(t, fmt.Sprint("Fail ", e), r, 2, e, true)
		expectNothing(t, fmt.Sprint("Fail ", e), r)
		r.Fail(api.ErrState)
		r.Fail(api.OK)
		expectState(t, fmt.Sprint("Fail again ", e), r, 2, e, true)
	}
}

// TestFailAtEnd sets the first error of a reader that has read everything, and of one that has read nothing.
func TestFailAtEnd(t *testing.T) {
	r := wire.Read([]byte{5})
	r.Uint()
	expectState(t, "the end", r, 1, api.OK, false)
	r.Fail(api.ErrCheck)
	expectState(t, "the end, failed", r, 1, api.ErrCheck, false)
	r = wire.Read([]byte{5})
	r.Fail(api.ErrFormat)
	expectState(t, "the beginning, failed", r, 0, api.ErrFormat, true)
	expectNothing(t, "the beginning, failed", r)
}

// TestOffsets follows a reader through all kinds of values up to the end and beyond.
func TestOffsets(t *testing.T) {
	r := wire.Read(fromHex("ac02" + "7f" + "01" + "05" + "026162" + "0163" + "03020106"))
	expectState(t, "nothing", r, 0, api.OK, true)
	if n := r.Uint(); n != 300 {
		t.Errorf("Uint: %d", n)
	}
	expectState(t, "Uint", r, 2, api.OK, true)
	if n := r.Int(); n != -64 {
		t.Errorf("Int: %d", n)
	}
	expectState(t, "Int", r, 3, api.OK, true)
	if !r.Bool() {
		t.Error("Bool")
	}
	expectState(t, "Bool", r, 4, api.OK, true)
	if n := r.Count(5); n != 5 {
		t.Errorf("Count: %d", n)
	}
	expectState(t, "Count", r, 5, api.OK, true)
	if b := r.Bytes(2); string(b) != "ab" {
		t.Errorf("Bytes: %q", b)
	}
	expectState(t, "Bytes", r, 8, api.OK, true)
	if s := r.String(1); s != "c" {
		t.Errorf("String: %q", s)
	}
	expectState(t, "String", r, 10, api.OK, true)
	if l := r.Ints(3); !slices.Equal(l, []int{1, -1, 3}) {
		t.Errorf("Ints: %d", l)
	}
	expectState(t, "Ints", r, 14, api.OK, false)
	r.Bool()
	expectState(t, "beyond the end", r, 14, api.ErrShort, false)
	expectNothing(t, "beyond the end", r)
}

// TestChapterReads has the examples of the chapter.
func TestChapterReads(t *testing.T) {
	for _, c := range []struct {
		in   string
		read func(r *wire.Reader)
		want api.Errno
	}{
		{"8000", func(r *wire.Reader) { r.Uint() }, api.ErrFormat},
		{"80", func(r *wire.Reader) { r.Uint() }, api.ErrShort},
		{"", func(r *wire.Reader) { r.Uint() }, api.ErrShort},
		{"02", func(r *wire.Reader) { r.Bool() }, api.ErrFormat},
		{"026162", func(r *wire.Reader) { r.Bytes(1) }, api.ErrFull},
		{"00", func(r *wire.Reader) { r.Count(-1) }, api.ErrArg},
	} {
		r := wire.Read(fromHex(c.in))
		c.read(r)
		expectState(t, c.in, r, 0, c.want, true)
	}
	r := wire.Read(fromHex("05ff"))
	if n := r.Uint(); n != 5 {
		t.Errorf("the first number: %d", n)
	}
	r.Uint()
	expectState(t, "the second number", r, 1, api.ErrShort, true)
}

// TestNoReader has a nil and a zero reader, which nothing changes.
func TestNoReader(t *testing.T) {
	for name, r := range map[string]*wire.Reader{"nil": nil, "zero": {}} {
		for range 2 {
			expectState(t, name, r, 0, api.ErrNil, true)
			expectNothing(t, name, r)
			r.Fail(api.ErrCheck)
			r.Fail(api.OK)
		}
	}
}

// TestReaderOfNothing is a reader, but one that is at its end.
func TestReaderOfNothing(t *testing.T) {
	for _, b := range [][]byte{nil, {}} {
		r := wire.Read(b)
		expectState(t, "nothing", r, 0, api.OK, false)
		r.Int()
		expectState(t, "nothing", r, 0, api.ErrShort, false)
	}
}

// P6.5

func TestFrames(t *testing.T) {
	d := draw(5)
	for _, kind := range []int{0, 1, 5, 127, 128, 1 << 40, math.MaxInt} {
		for _, n := range []int{0, 1, 2, 127, 128, 5000, 65000} {
			payload := d.text(n)
			want := append(modelUint(kind), modelBytes(payload)...)
			b, e := wire.Frame(kind, payload)
			if !bytes.Equal(b, want) || e != api.OK {
				t.Errorf("Frame of %d and %d bytes: %d bytes, %v", kind, n, len(b), e)
			}
			if k, p, e := wire.Unframe(want); k != kind || !bytes.Equal(p, payload) || e != api.OK {
				t.Errorf("Unframe of %d and %d bytes: %d, %d bytes, %v", kind, n, k, len(p), e)
			}
		}
	}
	if b, e := wire.Frame(5, []byte("x")); !bytes.Equal(b, fromHex("050178")) || e != api.OK {
		t.Errorf("%x %v", b, e)
	}
}

func TestFrameErrors(t *testing.T) {
	for _, c := range []struct {
		kind, bytes int
		want        api.Errno
	}{
		{1, 65532, api.OK}, {1, 65533, api.ErrFull}, {127, 65532, api.OK}, {128, 65532, api.ErrFull}, {128, 65531, api.OK},
		{math.MaxInt, 65524, api.OK}, {math.MaxInt, 65525, api.ErrFull}, {0, 65536, api.ErrFull}, {0, 65537, api.ErrFull}, {0, 1 << 21, api.ErrFull},
		{-1, 0, api.ErrArg}, {-1, 70000, api.ErrArg}, {math.MinInt, 1, api.ErrArg},
	} {
		b, e := wire.Frame(c.kind, make([]byte, c.bytes))
		if e != c.want || (len(b) == 0) != (e != api.OK) {
			t.Errorf("Frame of %d and %d bytes: %d bytes, %v", c.kind, c.bytes, len(b), e)
		}
		if e == api.OK && len(b) != api.MaxBytes {
			t.Errorf("Frame of %d and %d bytes: %d bytes", c.kind, c.bytes, len(b))
		}
	}
}

// TestUnframe compares with the model of a reader, which also tells the first error.
func TestUnframe(t *testing.T) {
	for _, b := range inputs() {
		kind, at, e := modelReadUint(b)
		var payload []byte
		if e == api.OK {
			var size int
			payload, size, e = modelReadBytes(b[at:], api.MaxBytes)
			at += size
		}
		if e == api.OK && at < len(b) {
			e = api.ErrLong
		}
		if e != api.OK {
			kind, payload = 0, nil
		}
		if k, p, f := wire.Unframe(b); k != kind || !bytes.Equal(p, payload) || f != e {
			t.Errorf("Unframe of %x: %d %x %v, want %d %x %v", b, k, p, f, kind, payload, e)
		}
	}
}

// TestUnframeErrors has the errors that only long inputs have, and their order.
func TestUnframeErrors(t *testing.T) {
	frame := func(n int) []byte { return append([]byte{1}, modelBytes(make([]byte, n))...) }
	for name, c := range map[string]struct {
		in   []byte
		want api.Errno
	}{
		"the longest payload":            {frame(api.MaxBytes), api.OK},
		"a longer payload":               {frame(api.MaxBytes + 1), api.ErrFull},
		"a longer payload, not there":    {frame(api.MaxBytes + 1)[:9], api.ErrFull},
		"the longest payload, a byte":    {append(frame(api.MaxBytes), 0), api.ErrLong},
		"the longest payload, not there": {frame(api.MaxBytes)[:api.MaxBytes+3], api.ErrShort},
		"a kind of ten bytes":            {fromHex("ffffffffffffffffff0100"), api.ErrFormat},
		"no kind":                        {nil, api.ErrShort},
		"two frames":                     {fromHex("050178050178"), api.ErrLong},
	} {
		k, p, e := wire.Unframe(c.in)
		if e != c.want {
			t.Errorf("%s: %v", name, e)
		}
		if want := e == api.OK; (k == 1) != want || (len(p) == api.MaxBytes) != want || !want && len(p) != 0 {
			t.Errorf("%s: %d and %d bytes", name, k, len(p))
		}
	}
}
