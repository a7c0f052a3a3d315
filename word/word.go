// Package word (layer 1): words of 32 bits: as bytes, as text, in fields; sums with their carry; looks of one shape. See DOC.md, chapter 1.
package word

import "warden/api"

const wordBytes = 4

// Bytes: each word as four bytes, the highest first.
func Bytes(words []uint32) []byte {
	out := make([]byte, wordBytes*len(words))
	for i := range len(words) {
		for j := range wordBytes {
			out[wordBytes*i+j] = byte(cut(words[i], 24-8*j, 8))
		}
	}
	return out
}

// Words: the other way round. ErrLong above MaxBytes; ErrPart, if the bytes are not a whole number of words.
func Words(b []byte) ([]uint32, api.Errno) {
	if len(b) > api.MaxBytes {
		return nil, api.ErrLong
	}
	if len(b)%wordBytes != 0 {
		return nil, api.ErrPart
	}
	out := make([]uint32, len(b)/wordBytes)
	for i := range len(b) {
		out[i/wordBytes] = out[i/wordBytes]<<8 | uint32(b[i])
	}
	return out, api.OK
}

// Overlap: do the addresses from a on, n of them, and those from b on, m of them, meet? (They don't go round at 2^32: what would lie beyond it is not there.)
func Overlap(a, n, b, m uint32) bool {
	// Both ends fit 64 bits; the later beginning is below 2^32 itself, so it is the number to ask for.
	return uint64(max(a, b)) < min(uint64(a)+uint64(n), uint64(b)+uint64(m))
}

// Same: are the two lists alike? It looks at all words of both, however early they part; looks is how many it looked at. (Of unlike lengths: false and 0.)
func Same(a, b []uint32) (alike bool, looks int) {
	if len(a) != len(b) {
		return false, 0
	}
	// The differences are gathered, not acted upon: leaving early would tell where the lists part.
	var parted uint32
	for i := range len(a) {
		parted |= a[i] ^ b[i]
		looks++
	}
	return parted == 0, looks
}
