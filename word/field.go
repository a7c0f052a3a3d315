package word

const wordBits = 32

// lowN: the mask of a word's N lowest bits.
const (
	low0 uint32 = 1<<iota - 1
	low1
	low2
	low3
	low4
	low5
	low6
	low7
	low8
	low9
	low10
	low11
	low12
	low13
	low14
	low15
	low16
	low17
	low18
	low19
	low20
	low21
	low22
	low23
	low24
	low25
	low26
	low27
	low28
	low29
	low30
	low31
	low32
)

// lows: the masks by their number of bits.
var lows = [wordBits + 1]uint32{
	low0, low1, low2, low3, low4, low5, low6, low7,
	low8, low9, low10, low11, low12, low13, low14, low15,
	low16, low17, low18, low19, low20, low21, low22, low23,
	low24, low25, low26, low27, low28, low29, low30, low31,
	low32,
}

// Field: the n bits of w from bit lo on (n 1 to 32, lo 0 to 31, lo + n at most 32; 0 for all else).
func Field(w uint32, lo, n int) uint32 {
	if !mayBe(lo, n) {
		return 0
	}
	return cut(w, lo, n)
}

// SetField: w with the n bits from lo on those lowest of v (w for numbers that Field answers 0 for).
func SetField(w uint32, lo, n int, v uint32) uint32 {
	if !mayBe(lo, n) {
		return w
	}
	mask := lows[n] << lo
	return w&^mask | v<<lo&mask
}

// Extend: the lowest n bits of w as a number with a sign (n 1 to 32; 0 for all else).
func Extend(w uint32, n int) int32 {
	if !mayBe(0, n) {
		return 0
	}
	sign := lows[n] ^ lows[n-1]
	// Turning the sign's bit and taking its worth away again makes it count below 0, for n 32 too.
	return int32((w&lows[n] ^ sign) - sign)
}

// n is taken from the bound: the sum lo + n could go round.
func mayBe(lo, n int) bool {
	return n >= 1 && lo >= 0 && lo <= wordBits-n
}

// cut is Field for a caller that knows that the field may be.
func cut(w uint32, lo, n int) uint32 {
	return w >> lo & lows[n]
}
