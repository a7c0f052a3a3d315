package word

import "math/bits"

// Left: w moved up by n bits, zeros come in; by 32 and more: 0.
func Left(w, n uint32) uint32 { return w << n }

// Right: w moved down by n bits, zeros come in; by 32 and more: 0.
func Right(w, n uint32) uint32 { return w >> n }

// Arith: w moved down by n bits, the sign's bit comes in; by 32 and more: all bits the sign's.
func Arith(w, n uint32) uint32 { return uint32(int32(w) >> n) }

// Rotate: w with its bits turned to the right by n places, n modulo 32.
func Rotate(w uint32, n int) uint32 {
	// The lowest five bits are n modulo 32 below 0 as well, where Go's % would not be.
	k := uint32(n) & low5
	return w>>k | w<<(wordBits-k)
}

// Add: the sum and the carry (0 or 1) of three.
func Add(a, b, carry uint32) (sum, out uint32) {
	return bits.Add32(a, b, carry&low1)
}

// Div: a divided by b without a remainder; by 0: all bits 1.
func Div(a, b uint32) uint32 {
	if b == 0 {
		return low32
	}
	return a / b
}

// Less: are a and b, as numbers with a sign, in this order?
func Less(a, b uint32) bool { return int32(a) < int32(b) }
