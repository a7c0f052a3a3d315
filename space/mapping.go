package space

import "warden/api"

// The bits of a mapping's word below those of the address.
const (
	isMapping uint32 = 1 << iota
	mayWrite
	mayExec
)

// pageBytes: addresses of pages' first bytes are its multiples, so that the bits below it are free for other use.
const pageBytes = 4 * api.PageWords

// Mapping: what a mapping word says: the address of a page's first byte, what may be done there.
type Mapping struct {
	VA          uint32
	Write, Exec bool
}

// Word: bits 12 to 29 the address, bit 0 is 1, bit 1 write, bit 2 exec, all else 0. ErrVA (no page's first byte below TopVA). Parse: just what Word gives; ErrMapping.
func Word(m Mapping) (uint32, api.Errno) {
	if m.VA%pageBytes != 0 || m.VA >= api.TopVA {
		return 0, api.ErrVA
	}
	w := m.VA | isMapping
	if m.Write {
		w |= mayWrite
	}
	if m.Exec {
		w |= mayExec
	}
	return w, api.OK
}
func Parse(w uint32) (Mapping, api.Errno) {
	m := Mapping{
		VA:    w - w%pageBytes,
		Write: w&mayWrite != 0,
		Exec:  w&mayExec != 0,
	}
	// What its bits say is a guess, which holds only if it has this word again.
	if again, e := Word(m); e != api.OK || again != w {
		return Mapping{}, api.ErrMapping
	}
	return m, api.OK
}
