package bitset

import (
	"math/bits"
	"strconv"
	"strings"

	"bandplan/api"
)

const (
	byteBits  = 8
	wordBytes = wordBits / byteBits
	maxBytes  = Max / byteBits // the bytes of a Set that has the greatest possible member
	maxDigits = 3              // the digits of the greatest possible member
)

// Text returns the set as a string.
func (s Set) Text() string {
	text := []byte{'{'}
	for i := range s.All() {
		if len(text) > 1 {
			text = append(text, ',')
		}
		text = strconv.AppendInt(text, int64(i), 10)
	}
	return string(append(text, '}'))
}

// Parse returns the set of a string.
func Parse(s string) (Set, api.Errno) {
	list, opened := strings.CutPrefix(s, "{")
	list, closed := strings.CutSuffix(list, "}")
	if !opened || !closed {
		return Set{}, api.ErrFormat
	}
	if list == "" {
		return Set{}, api.OK
	}
	var set Set
	last := -1
	for text := range strings.SplitSeq(list, ",") {
		i, ok := member(text)
		if !ok || i <= last {
			return Set{}, api.ErrFormat
		}
		set, _ = set.Add(i)
		last = i
	}
	return set, api.OK
}

// member returns the possible member of a string, which must be just as Text writes it.
func member(text string) (int, bool) {
	// A longer string may have any length, and Atoi would copy it into its error.
	if len(text) > maxDigits {
		return 0, false
	}
	i, err := strconv.Atoi(text)
	return i, err == nil && possible(i) && strconv.Itoa(i) == text
}

// Encode returns the set as bytes.
func (s Set) Encode() []byte {
	// The greatest member -1 of the empty set gives no bytes.
	b := make([]byte, (s.greatest()+byteBits)/byteBits)
	for i := range b {
		b[i] = byte(s.words[i/wordBytes] >> (i % wordBytes * byteBits))
	}
	return b
}

// greatest returns the greatest member, or -1 if there is none.
func (s Set) greatest() int {
	for w := len(s.words) - 1; w >= 0; w-- {
		if word := s.words[w]; word != 0 {
			return w*wordBits + bits.Len64(word) - 1
		}
	}
	return -1
}

// Decode returns the set of bytes.
func Decode(b []byte) (Set, api.Errno) {
	if len(b) > maxBytes {
		return Set{}, api.ErrLong
	}
	if len(b) > 0 && b[len(b)-1] == 0 {
		return Set{}, api.ErrFormat
	}
	var s Set
	for i, v := range b {
		s.words[i/wordBytes] |= uint64(v) << (i % wordBytes * byteBits)
	}
	return s, api.OK
}
