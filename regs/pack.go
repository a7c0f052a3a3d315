package regs

import "warden/api"

// PackWords: of a packed file.
const PackWords = 17

// Where the words behind the registers stand.
const (
	placePC    = api.Registers
	placeFlags = placePC + 1
)

// Pack: r0 to r14, PC, Flags. Unpack: just what Pack gives; ErrContext.
func Pack(f File) [PackWords]uint32 {
	p := [PackWords]uint32{placePC: f.PC, placeFlags: Flags(f)}
	copy(p[:], f.R[:])
	return p
}
func Unpack(words []uint32) (File, api.Errno) {
	if len(words) != PackWords {
		return File{}, api.ErrContext
	}
	f := File{PC: words[placePC]}
	copy(f.R[:], words)
	return Flagged(f, words[placeFlags])
}
