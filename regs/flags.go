package regs

import (
	"warden/api"
	"warden/isa"
	"warden/word"
)

// The flags' bits in a word.
const (
	bitZ = 1 << iota
	bitN
	bitL
	bitsEnd
)

// Compare: the file with the flags of a against b.
func Compare(f File, a, b uint32) File {
	f.Z, f.N, f.L = a == b, word.Less(a, b), a < b
	return f
}

// Holds: does the condition hold by the flags? (A Cond that there isn't: false.)
func Holds(f File, c isa.Cond) bool {
	return question(c, f.Z, f.N, f.L)()
}

// question: what c asks of these flags.
func question(c isa.Cond, z, n, l bool) func() bool {
	switch c {
	case isa.Always:
		return func() bool { return true }
	case isa.Eq:
		return func() bool { return z }
	case isa.Ne:
		return func() bool { return !z }
	case isa.Lt:
		return func() bool { return n }
	case isa.Ge:
		return func() bool { return !n }
	case isa.Lo:
		return func() bool { return l }
	case isa.Hs:
		return func() bool { return !l }
	}
	return func() bool { return false }
}

// Flags: as a word: Z alone 1; else N 2, L 4, added up. Flagged: the file with the flags of that word; ErrContext, if no file has it (N and Z, L and Z, or bits beyond).
func Flags(f File) uint32 {
	f = settled(f)
	return bit(f.Z, bitZ) | bit(f.N, bitN) | bit(f.L, bitL)
}
func Flagged(f File, w uint32) (File, api.Errno) {
	f.Z, f.N, f.L = w&bitZ != 0, w&bitN != 0, w&bitL != 0
	if w >= bitsEnd || f != settled(f) {
		return File{}, api.ErrContext
	}
	return f, api.OK
}

// settled: the file that may be in f's place. Words that are alike are not below one another, so N and L don't count beside Z.
func settled(f File) File {
	if f.Z {
		f.N, f.L = false, false
	}
	return f
}

func bit(flag bool, w uint32) uint32 {
	if flag {
		return w
	}
	return 0
}
