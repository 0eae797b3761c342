package seal

import "bandplan/blake"

// The labels of the keys that are derived for the two parts of sealing.
const (
	streamLabel = "stream"
	tagLabel    = "tag"
)

// counterSize is the number of bytes in which a block of the key stream is counted.
const counterSize = 8

// keyed expects a key of KeySize bytes, with which a hash never fails.
func keyed(key, b []byte) []byte {
	hash, _ := blake.Keyed(key, b)
	return hash[:]
}

func derived(key []byte, label string) []byte { return keyed(key, []byte(label)) }

// stream returns the first n bytes of a key stream.
func stream(key, nonce []byte, n int) []byte {
	streamKey := derived(key, streamLabel)
	b := make([]byte, 0, n)
	for i := uint64(0); len(b) < n; i++ {
		block := keyed(streamKey, counted(nonce, i))
		b = append(b, block[:min(len(block), n-len(b))]...)
	}
	return b
}

// counted returns the bytes whose hash is a block of the key stream.
func counted(nonce []byte, i uint64) []byte {
	b := make([]byte, 0, NonceSize+counterSize)
	b = append(b, nonce...)
	for k := counterSize - 1; k >= 0; k-- {
		b = append(b, byte(i>>(8*k)))
	}
	return b
}

// masked returns bytes xored with the key stream, which makes the ciphertext of a plaintext and the plaintext of a ciphertext.
func masked(key, nonce, b []byte) []byte {
	mask := stream(key, nonce, len(b))
	for i, c := range b {
		mask[i] ^= c
	}
	return mask
}

// tag returns the tag of a nonce with a ciphertext after it.
func tag(key, tagged []byte) []byte {
	return keyed(derived(key, tagLabel), tagged)[:TagSize]
}
