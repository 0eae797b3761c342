package wire

import (
	"bytes"

	"bandplan/api"
)

// Writer appends values to an encoding. The zero value is empty and ready to use.
type Writer struct {
	firstError
	out []byte
}

// Uint appends an unsigned number.
func (w *Writer) Uint(n int) {
	if !w.ready() {
		return
	}
	if n < 0 {
		w.fail(api.ErrArg)
		return
	}
	w.keep(appendGroups(w.out, uint64(n)))
}

// Int appends a signed number.
func (w *Writer) Int(n int) {
	if w.ready() {
		w.keep(appendGroups(w.out, folded(n)))
	}
}

// Bool appends a truth value.
func (w *Writer) Bool(b bool) {
	n := 0
	if b {
		n = 1
	}
	w.Uint(n)
}

// Bytes appends bytes after their number.
func (w *Writer) Bytes(b []byte) {
	if w.ready() && w.hasRoom(len(b)) {
		w.keep(append(appendGroups(w.out, uint64(len(b))), b...))
	}
}

// String appends a string after the number of its bytes.
func (w *Writer) String(s string) {
	w.Bytes([]byte(s))
}

// Ints appends signed numbers after their number.
func (w *Writer) Ints(l []int) {
	if !w.ready() || !w.hasRoom(len(l)) {
		return
	}
	longer := appendGroups(w.out, uint64(len(l)))
	for _, n := range l {
		longer = appendGroups(longer, folded(n))
	}
	w.keep(longer)
}

// End returns the encoding.
func (w *Writer) End() ([]byte, api.Errno) {
	if w == nil {
		return nil, api.ErrNil
	}
	if w.failed() {
		return nil, w.errno
	}
	return bytes.Clone(w.out), api.OK
}

// ready tells whether more can be written.
func (w *Writer) ready() bool {
	return w != nil && !w.failed()
}

// hasRoom refuses what is too long at the least, one byte for each element, before anything of it is copied.
func (w *Writer) hasRoom(elements int) bool {
	if elements > api.MaxBytes {
		w.fail(api.ErrFull)
	}
	return !w.failed()
}

// keep replaces the encoding by a longer one, so that a value is written completely or not at all.
func (w *Writer) keep(longer []byte) {
	if len(longer) > api.MaxBytes {
		w.fail(api.ErrFull)
		return
	}
	w.out = longer
}

// folded has the numbers 0, -1, 1, -2 and so on at 0, 1, 2, 3 and so on, so that those close to 0 take few bytes.
func folded(n int) uint64 {
	if n < 0 {
		return 2*uint64(-(n+1)) + 1
	}
	return 2 * uint64(n)
}

// appendGroups appends the group encoding of a number.
func appendGroups(b []byte, n uint64) []byte {
	for n >= more {
		b = append(b, byte(n)|more)
		n >>= groupBits
	}
	return append(b, byte(n))
}
