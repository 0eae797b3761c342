package seal_test

import (
	"bytes"
	"math"
	"strings"
	"testing"

	"bandplan/api"
	"bandplan/blake"
	"bandplan/seal"
)

func TestConstants(t *testing.T) {
	if seal.KeySize != 32 || seal.NonceSize != 16 || seal.TagSize != 16 || seal.Overhead != 32 {
		t.Error(seal.KeySize, seal.NonceSize, seal.TagSize, seal.Overhead)
	}
	if seal.MaxPlain != 65504 || seal.MaxLabel != 64 {
		t.Error(seal.MaxPlain, seal.MaxLabel)
	}
}

// P5.1

// TestKnownKeys holds keys that another program has derived.
func TestKnownKeys(t *testing.T) {
	for label, want := range map[string]string{
		"stream":                "a2f25a783142f87f1ecaa76f69aa4ff5e69ee5f25ef45a24388662d8920a448d",
		"tag":                   "01990f29d5cf44f047efd59b7a12689cff993ad204278a9e96ca2368bc208295",
		"a":                     "17157c0b0267627415d490c72861209be87ea201495c7e8d45fc7299fa04e399",
		"\x00":                  "40d15fee7c328830166ac3f918650f807e7e01e177258cdc0a39b11f598066f1",
		strings.Repeat("x", 64): "d97d10f084fa87c8d035a3b776f62190e719d4872f58251301c21e82f2675e1e",
	} {
		if d, e := seal.Derive(counting(32, 0), label); !bytes.Equal(d, fromHex(want)) || e != api.OK {
			t.Errorf("%q: %x %v", label, d, e)
		}
	}
}

// TestDerive has labels of all lengths, with bytes that are no letters.
func TestDerive(t *testing.T) {
	for n := 1; n <= 64; n++ {
		key, label := noise(32, uint32(n)), noise(n, 11)
		if d, e := seal.Derive(key, string(label)); !bytes.Equal(d, modelKeyed(key, label)) || e != api.OK {
			t.Errorf("label of %d bytes: %x %v", n, d, e)
		}
	}
}

func TestDeriveErrors(t *testing.T) {
	for _, key := range wrongKeys() {
		for _, label := range []string{"", "x", strings.Repeat("x", 64), strings.Repeat("x", 65)} {
			d, e := seal.Derive(key, label)
			refuse(t, "Derive with a wrong key", api.ErrArg, d, e)
		}
	}
	for _, label := range []string{"", strings.Repeat("x", 65), strings.Repeat("x", 1<<20)} {
		d, e := seal.Derive(counting(32, 0), label)
		refuse(t, "Derive with a wrong label", api.ErrArg, d, e)
	}
}

// TestKnownStream holds a key stream from another program, also behind the first 256 blocks, where the count of the blocks needs a second byte.
func TestKnownStream(t *testing.T) {
	s, e := seal.Stream(counting(32, 0), counting(16, 100), seal.MaxPlain)
	if e != api.OK || len(s) != seal.MaxPlain {
		t.Fatal(len(s), e)
	}
	for first, want := range map[int]string{
		0:     "0d14256629b8093f301dc7d8cfbab4f71dce65b776006f306ea499fe07bc5056b0416ef0cabc20a3d8d5a6762ae7409e15acde6ef447e3374d5777d67bbc5542c8b651f7848ecb3d56eefb40fbc4ec9f47a8418292c6639ed16a78aea39650845e0d7aea",
		8188:  "23e17b08c68a9bdf7a22a27ca71591dc25a9791089d047510300eaeb9b6d34c0342db7cdc70ac00f",
		65464: "417b3a7e35050b2f52ec87d138272dc43e3948c1d2c6354de7ca4ceaa4dd68a8953545e2b14645be",
	} {
		part := fromHex(want)
		if !bytes.Equal(s[first:first+len(part)], part) {
			t.Errorf("from %d on: %x", first, s[first:first+len(part)])
		}
	}
	if sum := blake.Sum(s); !bytes.Equal(sum[:], fromHex("39f40db502319c7559b68cae92d08a0080ef99a869df5ffae8d77f84f2611123")) {
		t.Errorf("all: %x", sum)
	}
}

func TestStream(t *testing.T) {
	for _, n := range lengths() {
		key, nonce := noise(32, uint32(n)), noise(16, uint32(n)+1)
		if s, e := seal.Stream(key, nonce, n); !bytes.Equal(s, modelStream(key, nonce, n)) || e != api.OK {
			t.Errorf("%d bytes: %x %v", n, s, e)
		}
	}
}

// TestStreamBegins compares the first bytes with more of the same key stream.
func TestStreamBegins(t *testing.T) {
	key, nonce := noise(32, 1), noise(16, 2)
	long, _ := seal.Stream(key, nonce, 300)
	for n := range 301 {
		if s, e := seal.Stream(key, nonce, n); len(s) != n || !bytes.Equal(s, long[:n]) || e != api.OK {
			t.Errorf("%d bytes: %x %v", n, s, e)
		}
	}
}

func TestStreamErrors(t *testing.T) {
	key, nonce := counting(32, 0), counting(16, 0)
	for _, n := range []int{0, 1, 32, seal.MaxPlain, -1, seal.MaxPlain + 1} {
		for _, wrong := range wrongKeys() {
			s, e := seal.Stream(wrong, nonce, n)
			refuse(t, "Stream with a wrong key", api.ErrArg, s, e)
		}
		for _, wrong := range wrongNonces() {
			s, e := seal.Stream(key, wrong, n)
			refuse(t, "Stream with a wrong nonce", api.ErrArg, s, e)
		}
	}
	for _, n := range []int{-1, -32, math.MinInt, seal.MaxPlain + 1, 1 << 31, math.MaxInt} {
		s, e := seal.Stream(key, nonce, n)
		refuse(t, "Stream with a wrong number", api.ErrArg, s, e)
	}
}

// P5.2

// TestKnownSealed holds what another program has sealed.
func TestKnownSealed(t *testing.T) {
	key, nonce := counting(32, 0), counting(16, 100)
	for plain, want := range map[string]string{
		"":    "6465666768696a6b6c6d6e6f707172737ef17d87102f3a14b150a0ba416388bb",
		"abc": "6465666768696a6b6c6d6e6f707172736c764692050a73e9d66b53844a9cd4f0e10e25",
		"The quick brown fox jumps over the lazy dog": "6465666768696a6b6c6d6e6f70717273597c404658cd605c5b3da5aaa0cddad77ba11d971c7502401d84f68862ce7022d8244e9cabc65983bcbac1790e7ac094b4265152e9edf5acb58ee1",
		string(counting(64, 0)):                       "6465666768696a6b6c6d6e6f707172730d1527652dbd0f383814cdd3c3b7baf80ddf77a46215792776bd83e51ba14e4990604cd3ee990684f0fc8c5d06ca6eb1259dec5dc072d500756e4ded47816b7d58c7faae78fcdc0e8b7fa69dba6ff905",
	} {
		if b := sealed(t, key, nonce, []byte(plain)); !bytes.Equal(b, fromHex(want)) {
			t.Errorf("%q: %x", plain, b)
		}
		expectOpen(t, "known", key, fromHex(want), []byte(plain))
	}
}

// TestManyKnownSealed hashes what is sealed with 256 keys and nonces; what comes out is from another program.
func TestManyKnownSealed(t *testing.T) {
	var all []byte
	for i := range 256 {
		all = append(all, sealed(t, counting(32, i), counting(16, 3*i), counting(i, 7))...)
	}
	if sum := blake.Sum(all); !bytes.Equal(sum[:], fromHex("a3a65e42de71bf65e1efa97a56389c7dfb92a10099408ecb715ac86ef444a6c8")) {
		t.Errorf("%x", sum)
	}
}

// TestLongestPlaintext has a hash from another program, too.
func TestLongestPlaintext(t *testing.T) {
	key, plain := counting(32, 0), counting(seal.MaxPlain, 5)
	b := sealed(t, key, counting(16, 100), plain)
	if sum := blake.Sum(b); !bytes.Equal(sum[:], fromHex("afcf4e4f6ab6ef086ec02c5e09c5b8f2fff85d8cea5d27a2cc3c87448fc06c29")) {
		t.Errorf("%x", sum)
	}
	if len(b) != api.MaxBytes {
		t.Error(len(b))
	}
	expectOpen(t, "longest", key, b, plain)
}

func TestSealAndOpen(t *testing.T) {
	for _, n := range lengths() {
		key, nonce, plain := noise(32, uint32(n)), noise(16, uint32(n)+1), noise(n, uint32(n)+2)
		want := modelSeal(key, nonce, plain)
		if b := sealed(t, key, nonce, plain); !bytes.Equal(b, want) {
			t.Errorf("%d bytes: %x", n, b)
		}
		expectOpen(t, "model", key, want, plain)
	}
}

func TestSealErrors(t *testing.T) {
	key, nonce := counting(32, 0), counting(16, 0)
	for _, plain := range [][]byte{nil, {}, []byte("abc"), make([]byte, seal.MaxPlain), make([]byte, seal.MaxPlain+1)} {
		for _, wrong := range wrongKeys() {
			b, e := seal.Seal(wrong, nonce, plain)
			refuse(t, "Seal with a wrong key", api.ErrArg, b, e)
		}
		for _, wrong := range wrongNonces() {
			b, e := seal.Seal(key, wrong, plain)
			refuse(t, "Seal with a wrong nonce", api.ErrArg, b, e)
		}
	}
	for _, n := range []int{seal.MaxPlain + 1, seal.MaxPlain + 2, api.MaxBytes, api.MaxBytes + 1, 1 << 20} {
		b, e := seal.Seal(key, nonce, make([]byte, n))
		refuse(t, "Seal of too many bytes", api.ErrArg, b, e)
	}
}

// TestOpenErrors has lengths that come before the tag, and a key that comes before the length.
func TestOpenErrors(t *testing.T) {
	key := counting(32, 0)
	for n := range 32 {
		p, e := seal.Open(key, make([]byte, n))
		refuse(t, "Open of too few bytes", api.ErrShort, p, e)
	}
	for _, n := range []int{api.MaxBytes + 1, api.MaxBytes + 2, 1 << 20} {
		p, e := seal.Open(key, make([]byte, n))
		refuse(t, "Open of too many bytes", api.ErrLong, p, e)
	}
	for _, n := range []int{32, 33, 64, api.MaxBytes - 1, api.MaxBytes} {
		p, e := seal.Open(key, make([]byte, n))
		refuse(t, "Open of zero bytes", api.ErrCheck, p, e)
	}
	for _, wrong := range wrongKeys() {
		for _, n := range []int{0, 31, 32, 100, api.MaxBytes, api.MaxBytes + 1} {
			p, e := seal.Open(wrong, make([]byte, n))
			refuse(t, "Open with a wrong key", api.ErrArg, p, e)
		}
	}
}

// TestLengthBeforeTag has bytes whose tags match, though there are too few or too many bytes.
func TestLengthBeforeTag(t *testing.T) {
	key := counting(32, 0)
	for n := 16; n < 32; n++ {
		p, e := seal.Open(key, retag(key, make([]byte, n)))
		refuse(t, "Open of too few bytes with a tag", api.ErrShort, p, e)
	}
	p, e := seal.Open(key, retag(key, make([]byte, api.MaxBytes+1)))
	refuse(t, "Open of too many bytes with a tag", api.ErrLong, p, e)
}

// TestChangedBits changes each bit of sealed bytes and of the key.
func TestChangedBits(t *testing.T) {
	for _, n := range []int{0, 1, 5, 40} {
		key, plain := noise(32, 7), noise(n, 8)
		b := sealed(t, key, noise(16, 9), plain)
		for i := range 8 * len(b) {
			b[i/8] ^= 1 << (i % 8)
			p, e := seal.Open(key, b)
			refuse(t, "Open of changed bytes", api.ErrCheck, p, e)
			b[i/8] ^= 1 << (i % 8)
		}
		for i := range 8 * len(key) {
			key[i/8] ^= 1 << (i % 8)
			p, e := seal.Open(key, b)
			refuse(t, "Open with a changed key", api.ErrCheck, p, e)
			key[i/8] ^= 1 << (i % 8)
		}
		expectOpen(t, "as it was", key, b, plain)
	}
}

// TestChangedPairs changes two bytes of the tag in the same way, which a sum of the differences would not find.
func TestChangedPairs(t *testing.T) {
	key := noise(32, 7)
	b := sealed(t, key, noise(16, 9), []byte("abc"))
	for i := len(b) - 16; i < len(b); i++ {
		for k := len(b) - 16; k < i; k++ {
			b[i], b[k] = b[i]^0x80, b[k]^0x80
			p, e := seal.Open(key, b)
			refuse(t, "Open with two changed bytes", api.ErrCheck, p, e)
			b[i], b[k] = b[i]^0x80, b[k]^0x80
		}
	}
}

// TestOtherLengths removes bytes at both ends, and adds some.
func TestOtherLengths(t *testing.T) {
	key := noise(32, 7)
	b := sealed(t, key, noise(16, 9), noise(50, 8))
	for n := 1; n <= 50; n++ {
		p, e := seal.Open(key, b[:len(b)-n])
		refuse(t, "Open without the last bytes", api.ErrCheck, p, e)
		p, e = seal.Open(key, b[n:])
		refuse(t, "Open without the first bytes", api.ErrCheck, p, e)
		p, e = seal.Open(key, append(bytes.Clone(b), make([]byte, n)...))
		refuse(t, "Open with more bytes", api.ErrCheck, p, e)
		p, e = seal.Open(key, append(make([]byte, n), b...))
		refuse(t, "Open with more bytes before", api.ErrCheck, p, e)
	}
}
