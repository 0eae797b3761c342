package seal_test

import (
	"bytes"
	"testing"

	"bandplan/api"
	"bandplan/blake"
	"bandplan/seal"
)

// P5.3

func TestOpenOfSeal(t *testing.T) {
	for n := range 400 {
		key, plain := noise(32, uint32(n)), noise(n, 3)
		expectOpen(t, "sealed", key, sealed(t, key, noise(16, uint32(n)*7), plain), plain)
	}
}

// TestSealOfOpen makes bytes with matching tags out of any nonce and ciphertext: what opens must be what Seal returns.
func TestSealOfOpen(t *testing.T) {
	for n := range 200 {
		key := noise(32, uint32(n))
		b := retag(key, noise(n+seal.Overhead, uint32(n)+1))
		plain, e := seal.Open(key, b)
		if e != api.OK || len(plain) != n {
			t.Fatalf("%d bytes: %x %v", n, plain, e)
		}
		if again := sealed(t, key, b[:16], plain); !bytes.Equal(again, b) {
			t.Errorf("%d bytes: %x", n, again)
		}
	}
}

// TestDifferentPlaintexts changes single bytes: the sealed bytes differ there and in the tag, and nowhere else.
func TestDifferentPlaintexts(t *testing.T) {
	key, nonce, plain := noise(32, 1), noise(16, 2), noise(100, 3)
	first := sealed(t, key, nonce, plain)
	for i := range plain {
		changed := bytes.Clone(plain)
		changed[i] ^= 0x55
		second := sealed(t, key, nonce, changed)
		for k := range first[:116] {
			if (first[k] != second[k]) != (k == 16+i) {
				t.Errorf("byte %d of the plaintext, byte %d of the sealed bytes", i, k)
			}
		}
		if bytes.Equal(first[116:], second[116:]) {
			t.Errorf("byte %d of the plaintext: the same tag", i)
		}
	}
}

// TestNothingIsShared finds no two equal blocks in the key streams of other keys and nonces.
func TestNothingIsShared(t *testing.T) {
	seen := map[string]bool{}
	for i := range 40 {
		for k := range 8 {
			key, nonce := make([]byte, 32), make([]byte, 16)
			key[i%32], nonce[(i+k)%16] = byte(i+1), byte(k+1)
			s, e := seal.Stream(key, nonce, 32*300)
			if e != api.OK {
				t.Fatal(e)
			}
			for block := 0; block < len(s); block += 32 {
				text := string(s[block : block+32])
				if seen[text] {
					t.Fatal("a block comes twice")
				}
				seen[text] = true
			}
		}
	}
}

// TestDerivedKeysDiffer finds no two equal keys, also of labels that begin alike.
func TestDerivedKeysDiffer(t *testing.T) {
	seen := map[string]bool{}
	for i := range 50 {
		for n := 1; n <= 64; n++ {
			d, e := seal.Derive(counting(32, i), string(make([]byte, n)))
			if e != api.OK || len(d) != 32 || seen[string(d)] {
				t.Fatal(i, n, len(d), e)
			}
			seen[string(d)] = true
		}
	}
}

// TestDerivedKeysAreKeys goes on with a derived key, which layer 4 takes, too.
func TestDerivedKeysAreKeys(t *testing.T) {
	d, _ := seal.Derive(counting(32, 0), "round")
	b := sealed(t, d, counting(16, 0), []byte("abc"))
	expectOpen(t, "derived", d, b, []byte("abc"))
	if _, e := blake.Keyed(d, b); e != api.OK {
		t.Error(e)
	}
}

// TestArguments holds the rule that arguments are not modified, also beyond their lengths.
func TestArguments(t *testing.T) {
	for _, n := range lengths() {
		key, nonce, plain := roomy(noise(32, 1)), roomy(noise(16, 2)), roomy(noise(n, 3))
		b := roomy(modelSeal(key, nonce, plain))
		wrong := roomy(append(noise(n, 4), make([]byte, 32)...))
		seal.Derive(key, "label")
		seal.Stream(key, nonce, n)
		seal.Seal(key, nonce, plain)
		seal.Open(key, b)
		seal.Open(key, wrong)
		if !bytes.Equal(key, noise(32, 1)) || !bytes.Equal(nonce, noise(16, 2)) || !bytes.Equal(plain, noise(n, 3)) {
			t.Fatal("an argument has changed")
		}
		if !bytes.Equal(b, modelSeal(key, nonce, plain)) || !bytes.Equal(wrong, append(noise(n, 4), make([]byte, 32)...)) {
			t.Fatal("sealed bytes have changed")
		}
		for _, argument := range [][]byte{key, nonce, plain, b, wrong} {
			if !untouched(argument) {
				t.Fatal("something was written behind an argument")
			}
		}
	}
}

// TestSharedArguments has arguments that are parts of the same memory.
func TestSharedArguments(t *testing.T) {
	all := noise(200, 6)
	want := modelSeal(bytes.Clone(all[:32]), bytes.Clone(all[8:24]), bytes.Clone(all))
	b := sealed(t, all[:32], all[8:24], all)
	if !bytes.Equal(b, want) || !bytes.Equal(all, noise(200, 6)) {
		t.Errorf("%x", b)
	}
}

// TestResults holds the rule that results share no memory with arguments or with other results.
func TestResults(t *testing.T) {
	for _, n := range []int{0, 1, 32, 100} {
		key, nonce, plain := noise(32, 1), noise(16, 2), noise(n, 3)
		want := modelSeal(key, nonce, plain)
		for range 3 {
			d, _ := seal.Derive(key, "label")
			s, _ := seal.Stream(key, nonce, n)
			b := sealed(t, key, nonce, plain)
			p, _ := seal.Open(key, want)
			if !bytes.Equal(d, modelKeyed(key, []byte("label"))) || !bytes.Equal(s, modelStream(key, nonce, n)) {
				t.Fatal("a derived key or a stream has changed")
			}
			if !bytes.Equal(b, want) || !bytes.Equal(p, plain) {
				t.Fatal("sealed or opened bytes have changed")
			}
			for _, result := range [][]byte{d, s, b, p} {
				clear(result[:cap(result)])
			}
		}
		if !bytes.Equal(key, noise(32, 1)) || !bytes.Equal(nonce, noise(16, 2)) || !bytes.Equal(plain, noise(n, 3)) {
			t.Fatal("an argument has changed with a result")
		}
		if !bytes.Equal(want, modelSeal(key, nonce, plain)) {
			t.Fatal("sealed bytes have changed with their plaintext")
		}
	}
}

// TestRetained changes the arguments after the calls.
func TestRetained(t *testing.T) {
	key, nonce, plain := noise(32, 1), noise(16, 2), noise(90, 3)
	want := modelSeal(key, nonce, plain)
	given := bytes.Clone(want)
	b := sealed(t, key, nonce, plain)
	p, e := seal.Open(key, given)
	clear(key)
	clear(nonce)
	clear(plain)
	clear(given)
	if !bytes.Equal(b, want) || !bytes.Equal(p, noise(90, 3)) || e != api.OK {
		t.Errorf("%x %x %v", b, p, e)
	}
}

// TestNilAndEmpty holds the rule that nil and empty slices are equivalent.
func TestNilAndEmpty(t *testing.T) {
	key, nonce := noise(32, 1), noise(16, 2)
	if !bytes.Equal(sealed(t, key, nonce, nil), sealed(t, key, nonce, []byte{})) {
		t.Error("nil and empty plaintexts differ")
	}
	p, e := seal.Open(key, nil)
	refuse(t, "Open of nil", api.ErrShort, p, e)
	p, e = seal.Open(nil, nil)
	refuse(t, "Open of nil with nil", api.ErrArg, p, e)
	p, e = seal.Open([]byte{}, []byte{})
	refuse(t, "Open of empty slices", api.ErrArg, p, e)
}

// TestEqualCalls makes the same calls again, with others and with errors between them.
func TestEqualCalls(t *testing.T) {
	for _, n := range lengths() {
		key, nonce, plain := noise(32, 1), noise(16, 2), noise(n, 3)
		first := sealed(t, key, nonce, plain)
		seal.Seal(noise(32, 4), noise(16, 5), noise(70, 6))
		seal.Open(key, first[1:])
		seal.Seal(key, key, plain)
		if again := sealed(t, bytes.Clone(key), bytes.Clone(nonce), bytes.Clone(plain)); !bytes.Equal(first, again) {
			t.Errorf("%d bytes are sealed in two ways", n)
		}
	}
}
