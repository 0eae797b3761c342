package blake_test

import (
	"bytes"
	"slices"
	"testing"

	"bandplan/api"
	"bandplan/blake"
)

func TestConstants(t *testing.T) {
	if blake.Size != 32 || blake.Block != 64 || blake.MaxKey != 32 {
		t.Error(blake.Size, blake.Block, blake.MaxKey)
	}
}

// P4.1

// TestKnownHashes holds hashes from another program.
func TestKnownHashes(t *testing.T) {
	for text, want := range map[string]string{
		"":    "69217a3079908094e11121d042354a7c1f55b6482ca1a51e1b250dfd1ed0eef9",
		"abc": "508c5e8c327c14e2e1a72ba34eeb452f37458b209ed63a294d999b4c86675982",
		"The quick brown fox jumps over the lazy dog": "606beeec743ccbeff6cbcdf5d5302aa855c256c29b88c8ed331ea1a6bf3c8812",
		string(counting(63)):                          "e57cb79487dd57902432b250733813bd96a84efce59f650fac26e6696aefafc3",
		string(counting(64)):                          "56f34e8b96557e90c1f24b52d0c89d51086acf1b00f634cf1dde9233b8eaaa3e",
		string(counting(65)):                          "1b53ee94aaf34e4b159d48de352c7f0661d0a40edff95a0b1639b4090e974472",
		string(counting(128)):                         "1fa877de67259d19863a2a34bcc6962a2b25fcbf5cbecd7ede8f1fa36688a796",
		string(counting(129)):                         "5bd169e67c82c2c2e98ef7008bdf261f2ddf30b1c00f9e7f275bb3e8a28dc9a2",
	} {
		if sum := blake.Sum([]byte(text)); sum != digest(want) {
			t.Errorf("%d bytes: %x", len(text), sum)
		}
	}
	if sum := blake.Sum(bytes.Repeat([]byte("a"), 1000000)); sum != digest("bec0c0e6cde5b67acb73b81f79a67a4079ae1c60dac9d2661af18e9f8b50dfa5") {
		t.Errorf("a million times a: %x", sum)
	}
}

// TestKnownKeyedHashes holds published hashes with the key 00 01 .. 1f, and hashes with shorter keys from another program.
func TestKnownKeyedHashes(t *testing.T) {
	for _, known := range []struct {
		key  int
		b    []byte
		want string
	}{
		{32, nil, "48a8997da407876b3d79c0d92325ad3b89cbb754d86ab71aee047ad345fd2c49"},
		{32, counting(1), "40d15fee7c328830166ac3f918650f807e7e01e177258cdc0a39b11f598066f1"},
		{32, counting(2), "6bb71300644cd3991b26ccd4d274acd1adeab8b1d7914546c1198bbe9fc9d803"},
		{32, counting(63), "c65382513f07460da39833cb666c5ed82e61b9e998f4b0c4287cee56c3cc9bcd"},
		{32, counting(64), "8975b0577fd35566d750b362b0897a26c399136df07bababbde6203ff2954ed4"},
		{32, counting(65), "21fe0ceb0052be7fb0f004187cacd7de67fa6eb0938d927677f2398c132317a8"},
		{32, counting(128), "0c311f38c35a4fb90d651c289d486856cd1413df9b0677f53ece2cd9e477c60a"},
		{32, counting(255), "3fb735061abc519dfe979e54c1ee5bfad0a9d858b3315bad34bde999efd724dd"},
		{1, []byte("abc"), "8a273cd57d48b272a6547652593f3c33ec69e3fb94fec9b59f2f21760ff62b4e"},
		{2, []byte("abc"), "bd3c5a779b148fd02e4897a1feae2df79d5c1fbfd91b8d85fd34530c20a68b0d"},
		{16, []byte("abc"), "033a40b64c6296fc2e3584d2a06bcf1a8003ebb9b8007940e2f820b645917a4e"},
		{31, []byte("abc"), "542829ccf430d0575f879ed166838921ba302cdb61bda8d67bf06ba3a6ed09fe"},
	} {
		if sum, e := blake.Keyed(counting(known.key), known.b); sum != digest(known.want) || e != api.OK {
			t.Errorf("key of %d bytes, %d bytes: %x %v", known.key, len(known.b), sum, e)
		}
	}
}

// TestManyKnownHashes hashes 8448 hashes, of keys of all lengths and of up to 255 bytes; what comes out is from another program.
func TestManyKnownHashes(t *testing.T) {
	var all []byte
	for key := range 33 {
		for n := range 256 {
			sum := blake.Sum(counting(n))
			if key > 0 {
				sum, _ = blake.Keyed(counting(key), counting(n))
			}
			all = append(all, sum[:]...)
		}
	}
	if sum := blake.Sum(all); sum != digest("d07e11b308ee1480bf0a665f5ad9b5f1f7f0bff3d6b16f5014084cc1862ea886") {
		t.Errorf("%x", sum)
	}
}

func TestSum(t *testing.T) {
	for n := range 400 {
		for seed := range uint32(3) {
			b := noise(n, seed)
			if sum := blake.Sum(b); sum != model(nil, b) {
				t.Fatalf("%d bytes: %x", n, sum)
			}
		}
	}
}

func TestSumOfEqualBytes(t *testing.T) {
	for _, value := range []byte{0, 1, 0x7f, 0x80, 0xff} {
		for _, n := range lengths() {
			b := bytes.Repeat([]byte{value}, n)
			if sum := blake.Sum(b); sum != model(nil, b) {
				t.Errorf("%d times %d: %x", n, value, sum)
			}
		}
	}
}

func TestSumOfLongString(t *testing.T) {
	for _, n := range []int{1 << 16, 1<<16 + 1, 300001} {
		b := noise(n, 5)
		if sum := blake.Sum(b); sum != model(nil, b) {
			t.Errorf("%d bytes: %x", n, sum)
		}
	}
}

func TestKeyed(t *testing.T) {
	for _, key := range keys()[1:] {
		for _, n := range lengths() {
			b := noise(n, uint32(len(key)))
			if sum, e := blake.Keyed(key, b); sum != model(key, b) || e != api.OK {
				t.Errorf("key of %d bytes, %d bytes: %x %v", len(key), n, sum, e)
			}
		}
	}
}

func TestKeyedErrors(t *testing.T) {
	for _, n := range []int{0, 33, 34, 64, 65, 1000} {
		for _, b := range [][]byte{nil, {}, {1}, counting(100)} {
			if sum, e := blake.Keyed(make([]byte, n), b); sum != [32]byte{} || e != api.ErrArg {
				t.Errorf("key of %d bytes: %x %v", n, sum, e)
			}
		}
	}
	if sum, e := blake.Keyed(nil, nil); sum != [32]byte{} || e != api.ErrArg {
		t.Errorf("no key: %x %v", sum, e)
	}
}

// P4.2

func TestNew(t *testing.T) {
	for _, key := range keys() {
		expect(t, "nothing written", begin(t, key), key, nil)
		for _, n := range lengths() {
			h := begin(t, key)
			write(t, h, noise(n, 7))
			expect(t, "written", h, key, noise(n, 7))
		}
	}
}

func TestNewWithoutKey(t *testing.T) {
	for _, key := range [][]byte{nil, {}} {
		h := begin(t, key)
		write(t, h, []byte("abc"))
		if sum, e := h.Sum(); sum != blake.Sum([]byte("abc")) || e != api.OK {
			t.Errorf("%x %v", sum, e)
		}
	}
}

func TestNewErrors(t *testing.T) {
	for _, n := range []int{33, 34, 64, 65, 1000} {
		if h, e := blake.New(make([]byte, n)); h != nil || e != api.ErrArg {
			t.Error("key of", n, "bytes:", h, e)
		}
	}
}

// TestWriteNothing has writes of nothing at the ends of blocks, which may not end a block or begin one.
func TestWriteNothing(t *testing.T) {
	for _, key := range [][]byte{nil, counting(32)} {
		for _, n := range lengths() {
			h := begin(t, key)
			write(t, h, nil, []byte{}, counting(n), nil, []byte{})
			expect(t, "with nothing", h, key, counting(n))
		}
	}
}

// TestSumLeavesTheComputation takes the hash after each byte, and goes on.
func TestSumLeavesTheComputation(t *testing.T) {
	for _, key := range [][]byte{nil, {3}, counting(32)} {
		b := noise(270, 8)
		h := begin(t, key)
		for i := range b {
			expect(t, "first", h, key, b[:i])
			expect(t, "second", h, key, b[:i])
			write(t, h, b[i:i+1])
		}
		expect(t, "all", h, key, b)
	}
}

func TestLen(t *testing.T) {
	for _, key := range keys() {
		h := begin(t, key)
		count := 0
		for _, n := range lengths() {
			if h.Len() != count {
				t.Fatal("key of", len(key), "bytes:", h.Len(), "and not", count)
			}
			write(t, h, make([]byte, n))
			count += n
		}
		if h.Len() != count {
			t.Error("key of", len(key), "bytes:", h.Len(), "and not", count)
		}
	}
}

func TestNoComputation(t *testing.T) {
	for name, h := range none() {
		for _, b := range [][]byte{nil, {}, {1}, counting(200)} {
			if e := h.Write(b); e != api.ErrNil {
				t.Error(name, "Write:", e)
			}
			if sum, e := h.Sum(); sum != [32]byte{} || e != api.ErrNil {
				t.Error(name, "Sum:", sum, e)
			}
			if n := h.Len(); n != 0 {
				t.Error(name, "Len:", n)
			}
		}
	}
}

// TestZeroStaysZero writes to a zero Hash, which must not become a computation by that.
func TestZeroStaysZero(t *testing.T) {
	zero := &blake.Hash{}
	for _, n := range lengths() {
		zero.Write(counting(n))
		if sum, e := zero.Sum(); sum != [32]byte{} || e != api.ErrNil || zero.Len() != 0 || zero.Copy() != nil {
			t.Error(n, "bytes:", sum, e, zero.Len())
		}
	}
}

// P4.3

func TestCopy(t *testing.T) {
	for _, key := range keys() {
		for _, n := range lengths() {
			h := begin(t, key)
			write(t, h, noise(n, 9))
			c := h.Copy()
			if c == nil || c == h {
				t.Fatal("the copy is nil or the computation itself")
			}
			expect(t, "copy", c, key, noise(n, 9))
			expect(t, "after Copy", h, key, noise(n, 9))
		}
	}
}

// TestCopyIsIndependent goes on differently with a computation, its copy and a copy of the copy.
func TestCopyIsIndependent(t *testing.T) {
	for _, key := range [][]byte{nil, counting(32)} {
		for _, n := range lengths() {
			for _, more := range []int{1, 63, 64, 65, 200} {
				start := noise(n, 10)
				h := begin(t, key)
				write(t, h, start)
				c := h.Copy()
				d := c.Copy()
				a, b := noise(more, 11), noise(more+1, 12)
				write(t, h, a)
				expect(t, "copy", c, key, start)
				write(t, c, b)
				expect(t, "computation", h, key, slices.Concat(start, a))
				expect(t, "copy that went on", c, key, slices.Concat(start, b))
				expect(t, "copy of the copy", d, key, start)
			}
		}
	}
}

// TestCopyOutlivesTheComputation clears the computation after it was copied.
func TestCopyOutlivesTheComputation(t *testing.T) {
	h := begin(t, counting(5))
	write(t, h, counting(100))
	c := h.Copy()
	*h = blake.Hash{}
	write(t, c, counting(50))
	expect(t, "copy", c, counting(5), slices.Concat(counting(100), counting(50)))
}

func TestCopyOfNoComputation(t *testing.T) {
	for name, h := range none() {
		if c := h.Copy(); c != nil {
			t.Error(name, c)
		}
	}
}
