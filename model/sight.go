package model

import (
	"warden/api"
	"warden/walk"
)

// sight: the memory as a step of a thread sees it: words at addresses, of which it is told too whether that may be done there.
type sight interface {
	fetch(va uint32) (w uint32, may bool)
	load(va uint32) (w uint32, may bool)
	store(va, w uint32) (may bool)
}

// window: what a space's maps show of the model's words.
type window struct {
	m *Model
	s *space
}

func (v window) fetch(va uint32) (uint32, bool) {
	at, to := v.look(va)
	if at == nil || !to.Exec {
		return 0, false
	}
	return *at, true
}

func (v window) load(va uint32) (uint32, bool) {
	at, _ := v.look(va)
	if at == nil {
		return 0, false
	}
	return *at, true
}

func (v window) store(va, w uint32) bool {
	at, to := v.look(va)
	if at == nil || !to.Write {
		return false
	}
	*at = w
	return true
}

// look: the word at an address, and the map by which it is seen; nil, if none is.
func (v window) look(va uint32) (*uint32, walk.Map) {
	off := va % pageBytes
	to, is := v.s.maps.at(va - off)
	if !is || off%wordBytes != 0 {
		return nil, walk.Map{}
	}
	return &v.m.wordsOf(to.Frame)[off/wordBytes], to
}

// wordsOf: those of a page that is mapped.
func (m *Model) wordsOf(f api.Frame) []uint32 {
	if f.Secure {
		return m.pages[f.Page].words
	}
	return m.insecure[f.Page]
}
