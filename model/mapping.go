package model

import (
	"warden/api"
	"warden/walk"
)

// How far the user's addresses reach in words, in pages, in the tables that a first-level index names.
const (
	wordBytes  = 4
	pageBytes  = wordBytes * api.PageWords
	tableBytes = pageBytes * api.PageWords
)

// The bits of a mapping word behind its address.
const (
	mapping = 1 << iota // of every one
	mapWrite
	mapExec
)

// mapped: the address that a mapping word says, and the map of a frame there by what it allows. False, if it is no mapping word.
func mapped(w uint32, to api.Frame) (uint32, walk.Map, bool) {
	bits := w % pageBytes
	if w >= api.TopVA || bits&mapping == 0 || bits > mapping|mapWrite|mapExec {
		return 0, walk.Map{}, false
	}
	return w - bits, walk.Map{Frame: to, Write: bits&mapWrite != 0, Exec: bits&mapExec != 0}, true
}

func secure(page uint32) api.Frame { return api.Frame{Secure: true, Page: int(page)} }

func insecure(page uint32) api.Frame { return api.Frame{Page: int(page)} }
