package bitset_test

import (
	"bytes"
	"math/bits"
	"strconv"
	"strings"
	"testing"

	"bandplan/api"
	"bandplan/bitset"
)

// P7.5

// TestExamples holds the examples of the chapter that have forms.
func TestExamples(t *testing.T) {
	s := of(t, 5, 0, 5)
	if s.Text() != "{0,5}" || s.Len() != 2 || !bytes.Equal(s.Encode(), []byte{0x21}) {
		t.Errorf("%s %x", s.Text(), s.Encode())
	}
	if s.Next(1) != 5 || s.Next(6) != -1 || s.Min() != 0 || s.Next(-9) != 0 {
		t.Error(s.Next(1), s.Next(6), s.Min(), s.Next(-9))
	}
	if b := of(t, 511).Encode(); len(b) != 64 || b[63] != 0x80 || !bytes.Equal(b[:63], make([]byte, 63)) {
		t.Errorf("%x", b)
	}
	var none bitset.Set
	if none.Min() != -1 || none.Text() != "{}" || len(none.Encode()) != 0 {
		t.Errorf("%s %x", none.Text(), none.Encode())
	}
}

// TestEncodeSingle has each possible member alone: the place of its bit and the number of bytes.
func TestEncodeSingle(t *testing.T) {
	for i := range bitset.Max {
		b := of(t, i).Encode()
		if len(b) != i/8+1 || b[i/8] != 1<<(i%8) || !bytes.Equal(b[:i/8], make([]byte, i/8)) {
			t.Errorf("%d: %x", i, b)
		}
	}
}

func TestParseAndDecode(t *testing.T) {
	for _, l := range lists() {
		m := modelOf(l)
		s, e := bitset.Parse(m.text())
		expectSet(t, "Parse", s, e, m)
		s, e = bitset.Decode(m.bytes())
		expectSet(t, "Decode", s, e, m)
	}
}

func TestParseSingle(t *testing.T) {
	for i := range 10000 {
		m := model{}
		if i < bitset.Max {
			m[i] = true
		}
		expectParse(t, "{"+strconv.Itoa(i)+"}", m)
		expectParse(t, "{"+strconv.Itoa(-i)+"}", m)
		expectParse(t, "{0"+strconv.Itoa(i)+"}", m)
		expectParse(t, "{+"+strconv.Itoa(i)+"}", m)
	}
}

func TestParseBadStrings(t *testing.T) {
	for _, text := range []string{"", "{", "}", "}{", "{{}}", "{}}", "{{}", "{} ", " {}", "{ }", "{}\n", "{}{}", "\x00", "{\x00}",
		"1", "{1", "1}", "1,2", "{1,2", "1,2}", "(1)", "[1]", "{,}", "{1,}", "{,1}", "{1,,2}", "{1,2,}", "{1;2}", "{1 2}", "{1.2}",
		"{5,0}", "{0,0}", "{1,2,2}", "{1,3,2}", "{511,0}", "{2,10,9}", "{10,9}", "{00}", "{01}", "{000}", "{001}", "{0001}", "{1,02}",
		"{ 1}", "{1 }", "{1, 2}", "{1 ,2}", "{1\t}", "{+1}", "{-1}", "{-0}", "{--1}", "{+}", "{-}", "{0x1}", "{1e1}", "{1_0}", "{1_1}", "{a}", "{x}", "{'1'}", "{١}", "{１}", "{1\xff}",
		"{512}", "{999}", "{1000}", "{0,512}", "{511,512}", "{4294967296}", "{4294967301}", "{9223372036854775808}", "{18446744073709551616}", "{18446744073709551621}", "{-18446744073709551611}",
		"{1}}", "{{1}", "{1}{2}", "{1},{2}", "{1}\x00", "\ufeff{1}",
	} {
		s, e := bitset.Parse(text)
		expectNone(t, strconv.Quote(text), s, e, api.ErrFormat)
	}
}

// TestParseLongStrings has strings that are longer than that of any set.
func TestParseLongStrings(t *testing.T) {
	for _, part := range []string{"0", "1", "7", "9", ",", "0,", ",0", "{", "}", "{}", "-", "+", "\x00", "511,"} {
		long := strings.Repeat(part, 100000)
		for _, text := range []string{long, "{" + long, long + "}", "{" + long + "}", "{0," + long + "}", "{" + long + "1}", "{511," + long + "1}"} {
			s, e := bitset.Parse(text)
			expectNone(t, "many times "+part, s, e, api.ErrFormat)
		}
	}
	all := modelOf(run(0, 511)).text()
	for _, end := range []string{",511}", ",512}", ",}", ",0}", "}", ","} {
		s, e := bitset.Parse(strings.TrimSuffix(all, "}") + end)
		if end == "}" {
			expectSet(t, "all", s, e, modelOf(run(0, 511)))
		} else {
			expectNone(t, "all and "+end, s, e, api.ErrFormat)
		}
	}
}

// TestParseChangedStrings replaces, inserts and removes a byte of strings of sets: what is parsed has no other string.
func TestParseChangedStrings(t *testing.T) {
	parsed := 0
	for _, text := range []string{"{}", "{0}", "{7}", "{10}", "{511}", "{0,5}", "{9,10,99,100}", "{1,2,3}", "{63,64,510,511}"} {
		for at := range len(text) + 1 {
			for _, c := range []byte("{},0123456789 +-_x\x00\xff") {
				changed := []string{text[:at] + string([]byte{c}) + text[at:]}
				if at < len(text) {
					changed = append(changed, text[:at]+string([]byte{c})+text[at+1:], text[:at]+text[at+1:])
				}
				for _, other := range changed {
					s, e := bitset.Parse(other)
					if e == api.OK && s.Text() == other {
						parsed++
						continue
					}
					expectNone(t, strconv.Quote(other), s, e, api.ErrFormat)
				}
			}
		}
	}
	if parsed < 100 {
		t.Errorf("only %d strings are parsed", parsed)
	}
}

// TestParseShortStrings has all strings of at most six of some bytes: exactly those are parsed that are strings of sets.
func TestParseShortStrings(t *testing.T) {
	known := map[string]bool{"{}": true}
	for i := range bitset.Max {
		a := strconv.Itoa(i)
		known["{"+a+"}"] = true
		for j := i + 1; j < bitset.Max; j++ {
			known["{"+a+","+strconv.Itoa(j)+"}"] = true
		}
	}
	list := []string{""}
	for first := 0; first < len(list); first++ {
		text := list[first]
		s, e := bitset.Parse(text)
		if known[text] != (e == api.OK) || known[text] && s.Text() != text {
			t.Fatalf("%q: %v, %v", text, s.List(), e)
		}
		if len(text) < 6 {
			for _, c := range "{},0125-" {
				list = append(list, text+string(c))
			}
		}
	}
}

func TestDecodeErrors(t *testing.T) {
	for n := range 200 {
		zeros := make([]byte, n)
		full := bytes.Repeat([]byte{0xff}, n)
		a, e := bitset.Decode(zeros)
		b, f := bitset.Decode(full)
		c, g := bitset.Decode(append(bytes.Clone(full), 0))
		switch {
		case n > 64:
			expectNone(t, "too many zeros", a, e, api.ErrLong)
			expectNone(t, "too many ones", b, f, api.ErrLong)
		case n > 0:
			expectNone(t, "zeros", a, e, api.ErrFormat)
			expectSet(t, "ones", b, f, modelOf(run(0, n*8-1)))
		default:
			expectSet(t, "no zeros", a, e, model{})
			expectSet(t, "no ones", b, f, model{})
		}
		if n >= 64 {
			expectNone(t, "too many ones and a zero", c, g, api.ErrLong)
		} else {
			expectNone(t, "ones and a zero", c, g, api.ErrFormat)
		}
	}
	s, e := bitset.Decode(make([]byte, 1<<20))
	expectNone(t, "a megabyte", s, e, api.ErrLong)
}

// TestDecodeBytes reads bytes that nobody has written: they are decoded unless the last one is 0.
func TestDecodeBytes(t *testing.T) {
	d := draw(8)
	for range 20000 {
		b := make([]byte, d.below(65))
		n := 0
		for i := range b {
			b[i] = byte(d.below(256) & d.below(256) & d.below(256))
			n += bits.OnesCount8(b[i])
		}
		s, e := bitset.Decode(b)
		if len(b) > 0 && b[len(b)-1] == 0 {
			expectNone(t, "a zero at the end", s, e, api.ErrFormat)
			continue
		}
		if e != api.OK || s.Len() != n || !bytes.Equal(s.Encode(), b) {
			t.Fatalf("%x becomes %x, %v", b, s.Encode(), e)
		}
	}
}
