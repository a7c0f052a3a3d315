package walk

import "warden/api"

// The bits of a descriptor; the page's number stands above them.
const (
	isThere uint32 = 1 << iota
	isSecure
	mayWrite
	mayExec

	pageShift = 8
)

// pages: of both kinds there are as many numbers.
const pages = 64

// First: the first-level descriptor of a second-level table's secure page (0 to MaxSecure - 1): ErrRange. ParseFirst: 0 is none (ErrNone); ErrTable for every other word that First doesn't give.
func First(page int) (uint32, api.Errno) {
	if !below(page, api.MaxSecure) {
		return 0, api.ErrRange
	}
	return uint32(page)<<pageShift | isThere, api.OK
}
func ParseFirst(w uint32) (int, api.Errno) { return told(w, number, First) }

// Second: the descriptor of a map: ErrRange (page numbers 0 to 63), ErrArg (an insecure page that may be executed). ParseSecond: 0 is none (ErrNone); ErrTable.
func Second(m Map) (uint32, api.Errno) {
	if !below(m.Frame.Page, pages) {
		return 0, api.ErrRange
	}
	if m.Exec && !m.Frame.Secure {
		return 0, api.ErrArg
	}
	w := uint32(m.Frame.Page)<<pageShift | isThere
	w |= bit(m.Frame.Secure, isSecure) | bit(m.Write, mayWrite) | bit(m.Exec, mayExec)
	return w, api.OK
}
func ParseSecond(w uint32) (Map, api.Errno) { return told(w, fields, Second) }

// told: what a word is the descriptor of, at either level. What its bits say by themselves is a guess: the word is a descriptor only if that gives the same word again, so whatever a level doesn't give, it doesn't take.
func told[T any](w uint32, guess func(uint32) T, give func(T) (uint32, api.Errno)) (T, api.Errno) {
	var none T
	if w == 0 {
		return none, api.ErrNone
	}
	t := guess(w)
	if again, e := give(t); e != api.OK || again != w {
		return none, api.ErrTable
	}
	return t, api.OK
}

// number: the page's number as a word's upper bits say it.
func number(w uint32) int { return int(w >> pageShift) }

// fields: a map as a word's bits say it.
func fields(w uint32) Map {
	return Map{
		Frame: api.Frame{Secure: w&isSecure != 0, Page: number(w)},
		Write: w&mayWrite != 0,
		Exec:  w&mayExec != 0,
	}
}

// bit: b, if it is set.
func bit(set bool, b uint32) uint32 {
	if set {
		return b
	}
	return 0
}
