package wire

import (
	"bytes"

	"bandplan/api"
)

// Reader reads the values of an encoding.
type Reader struct {
	firstError
	made bool // tells a reader of nothing from a zero Reader
	rest input
}

// Read returns a reader at the beginning of bytes.
func Read(b []byte) *Reader {
	return &Reader{made: true, rest: input{all: bytes.Clone(b)}}
}

// Uint reads an unsigned number.
func (r *Reader) Uint() int {
	return next(r, (*input).unsigned)
}

// Int reads a signed number.
func (r *Reader) Int() int {
	return next(r, (*input).signed)
}

// Bool reads a truth value.
func (r *Reader) Bool() bool {
	return next(r, (*input).truth)
}

// Count reads an unsigned number that is at most a limit.
func (r *Reader) Count(limit int) int {
	return next(r, func(in *input) int { return in.count(limit) })
}

// Bytes reads at most limit bytes after their number.
func (r *Reader) Bytes(limit int) []byte {
	return next(r, func(in *input) []byte { return bytes.Clone(in.text(limit)) })
}

// String reads a string of at most limit bytes after their number.
func (r *Reader) String(limit int) string {
	return next(r, func(in *input) string { return string(in.text(limit)) })
}

// Ints reads at most limit signed numbers after their number.
func (r *Reader) Ints(limit int) []int {
	return next(r, func(in *input) []int { return in.list(limit) })
}

// Fail makes the reader fail with an error.
func (r *Reader) Fail(e api.Errno) {
	if r.isReader() {
		r.fail(e)
	}
}

// At returns the offset of the next byte, or of the value that failed.
func (r *Reader) At() int {
	if !r.isReader() {
		return 0
	}
	return r.rest.at
}

// Err returns the first error.
func (r *Reader) Err() api.Errno {
	if !r.isReader() {
		return api.ErrNil
	}
	return r.errno
}

// End returns the first error, or ErrLong if bytes are left.
func (r *Reader) End() api.Errno {
	e := r.Err()
	if e == api.OK && r.rest.at < len(r.rest.all) {
		return api.ErrLong
	}
	return e
}

// isReader tells whether Read has made the reader.
func (r *Reader) isReader() bool {
	return r != nil && r.made
}

// next returns the next value. It is read from a copy of the input, which the reader takes over only if nothing panics: a value that cannot be read leaves the offset where it is.
func next[T any](r *Reader, value func(*input) T) (v T) {
	if !r.isReader() || r.failed() {
		return v
	}
	defer func() {
		if e, ok := recover().(api.Errno); ok {
			r.fail(e)
		}
	}()
	rest := r.rest
	v = value(&rest)
	r.rest = rest
	return v
}
