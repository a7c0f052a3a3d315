package walk

import "warden/api"

// Where the parts of an address stand, and how many numbers each has.
const (
	offShift = 2
	jShift   = 12
	iShift   = 22

	offs = 1 << (jShift - offShift)
	js   = 1 << (iShift - jShift)
)

// Split: an address as first-level index (0 to 255), second-level index (0 to 1023), word of the page. ErrVA, if it isn't below TopVA or not a word's.
func Split(va uint32) (i, j, off int, e api.Errno) {
	if va >= api.TopVA || va%(1<<offShift) != 0 {
		return 0, 0, 0, api.ErrVA
	}
	return int(va >> iShift), int(va >> jShift % js), int(va >> offShift % offs), api.OK
}

// Join: the other way round; ErrRange.
func Join(i, j, off int) (uint32, api.Errno) {
	if !below(i, api.L1Words) || !below(j, js) || !below(off, offs) {
		return 0, api.ErrRange
	}
	return uint32(i)<<iShift | uint32(j)<<jShift | uint32(off)<<offShift, api.OK
}

// below: is n one of the numbers from 0 on that a part, or a page's number, may be?
func below(n, limit int) bool { return n >= 0 && n < limit }
