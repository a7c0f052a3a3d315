package sha

import "math/bits"

const rounds = 64

// roundWords: FIPS 180-4, 4.2.2: the upper 32 bits behind the point of the cube roots of the first 64 primes.
var roundWords = [rounds]uint32{
	0x428a2f98, 0x71374491, 0xb5c0fbcf, 0xe9b5dba5, 0x3956c25b, 0x59f111f1, 0x923f82a4, 0xab1c5ed5,
	0xd807aa98, 0x12835b01, 0x243185be, 0x550c7dc3, 0x72be5d74, 0x80deb1fe, 0x9bdc06a7, 0xc19bf174,
	0xe49b69c1, 0xefbe4786, 0x0fc19dc6, 0x240ca1cc, 0x2de92c6f, 0x4a7484aa, 0x5cb0a9dc, 0x76f988da,
	0x983e5152, 0xa831c66d, 0xb00327c8, 0xbf597fc7, 0xc6e00bf3, 0xd5a79147, 0x06ca6351, 0x14292967,
	0x27b70a85, 0x2e1b2138, 0x4d2c6dfc, 0x53380d13, 0x650a7354, 0x766a0abb, 0x81c2c92e, 0x92722c85,
	0xa2bfe8a1, 0xa81a664b, 0xc24b8b70, 0xc76c51a3, 0xd192e819, 0xd6990624, 0xf40e3585, 0x106aa070,
	0x19a4c116, 0x1e376c08, 0x2748774c, 0x34b0bcb5, 0x391c0cb3, 0x4ed8aa4a, 0x5b9cca4f, 0x682e6ff3,
	0x748f82ee, 0x78a5636f, 0x84c87814, 0x8cc70208, 0x90befffa, 0xa4506ceb, 0xbef9a3f7, 0xc67178f2,
}

// First: the state ahead of the first block.
func First() [8]uint32 {
	return [8]uint32{0x6a09e667, 0xbb67ae85, 0x3c6ef372, 0xa54ff53a, 0x510e527f, 0x9b05688c, 0x1f83d9ab, 0x5be0cd19}
}

// Block: the state behind one block of sixteen words.
func Block(state [8]uint32, block [16]uint32) [8]uint32 {
	s := state
	for i, w := range schedule(block) {
		s = round(s, roundWords[i]+w)
	}
	for i := range s {
		s[i] += state[i]
	}
	return s
}

// schedule: FIPS 180-4, 6.2.2, step 1.
func schedule(block [16]uint32) [rounds]uint32 {
	var w [rounds]uint32
	copy(w[:], block[:])
	for i := blockWords; i < rounds; i++ {
		a, b := w[i-15], w[i-2]
		near := right(a, 7) ^ right(a, 18) ^ a>>3
		far := right(b, 17) ^ right(b, 19) ^ b>>10
		w[i] = far + w[i-7] + near + w[i-16]
	}
	return w
}

// round: FIPS 180-4, 6.2.2, step 3: the state's words move on by one place; add is the round's word and the schedule's.
func round(s [8]uint32, add uint32) [8]uint32 {
	a, b, c, e, f, g := s[0], s[1], s[2], s[4], s[5], s[6]
	choice := e&f ^ ^e&g
	majority := a&b ^ a&c ^ b&c
	t1 := s[7] + (right(e, 6) ^ right(e, 11) ^ right(e, 25)) + choice + add
	t2 := (right(a, 2) ^ right(a, 13) ^ right(a, 22)) + majority
	return [8]uint32{t1 + t2, a, b, c, s[3] + t1, e, f, g}
}

// right: turned to the right.
func right(w uint32, by int) uint32 { return bits.RotateLeft32(w, -by) }
