package wire

import "bandplan/api"

// The greatest numbers of bytes of a group encoding: of 63 bits and of 64 bits.
const (
	unsignedBytes = 9
	signedBytes   = 10
)

// input is what is read and the offset of the next byte. Its methods panic with the error of a value that cannot be read; the reader recovers it.
type input struct {
	all []byte
	at  int
}

// one reads a byte.
func (in *input) one() byte {
	if in.at == len(in.all) {
		panic(api.ErrShort)
	}
	in.at++
	return in.all[in.at-1]
}

// groups reads a group encoding of at most so many bytes.
func (in *input) groups(most int) uint64 {
	var n uint64
	for i := range most {
		c := in.one()
		group, shift := uint64(c%more), i*groupBits
		if group<<shift>>shift != group { // bits beyond the 64th are lost
			panic(api.ErrFormat)
		}
		n |= group << shift
		if c == 0 && i > 0 { // a byte shorter is the same number
			panic(api.ErrFormat)
		}
		if c < more {
			return n
		}
	}
	panic(api.ErrFormat)
}

// unsigned reads an unsigned number.
func (in *input) unsigned() int {
	return int(in.groups(unsignedBytes))
}

// signed reads a signed number.
func (in *input) signed() int {
	n := in.groups(signedBytes)
	if n%2 == 1 {
		return -int(n/2) - 1
	}
	return int(n / 2)
}

// truth reads a truth value.
func (in *input) truth() bool {
	c := in.one()
	if c > 1 {
		panic(api.ErrFormat)
	}
	return c == 1
}

// count reads an unsigned number; a number above the limit is an error before anything after it is looked at.
func (in *input) count(limit int) int {
	n := in.unsigned()
	if limit < 0 {
		panic(api.ErrArg)
	}
	if n > limit {
		panic(api.ErrFull)
	}
	return n
}

// text reads bytes after their number and returns them as a part of the input.
func (in *input) text(limit int) []byte {
	n := in.count(limit)
	if n > len(in.all)-in.at {
		panic(api.ErrShort)
	}
	in.at += n
	return in.all[in.at-n : in.at]
}

// list reads signed numbers after their number. The list grows with what is there, since the number may be anything.
func (in *input) list(limit int) []int {
	var l []int
	for range in.count(limit) {
		l = append(l, in.signed())
	}
	return l
}
