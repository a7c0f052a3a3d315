package model

import (
	"warden/api"
	"warden/entry"
	"warden/measure"
	"warden/regs"
	"warden/walk"
)

// record: what a secure page is; besides type and owner just what its type has.
type record struct {
	kind   entry.Type
	owner  int
	words  []uint32 // of a data page
	thread thread
	space  space
}

type thread struct {
	begins  uint32 // the address of its first instruction
	entered bool
	saved   regs.File // the zero file, unless it is entered
}

// digest: the saved state of what a space was built of so far.
type digest [entry.SpaceUsed - entry.SpaceDigest]uint32

type space struct {
	state        entry.State
	birth, draws int
	measurement  [8]uint32
	digest       digest
	tables       kept[int, int]         // their pages, by index
	maps         kept[uint32, walk.Map] // by the address of the page's first byte
}

// measure: what was built now is added to what was built before. No error is left to look for: the digest is one, and the calls make no other operations than there are.
func (s *space) measure(o measure.Op) {
	next, _ := measure.Extend(s.digest, o)
	s.digest = next
}

// refuses: what stands against a page at an address; CodeOK, if nothing does.
func (s *space) refuses(va uint32) api.Code {
	switch {
	case !s.hasTable(va):
		return api.CodeTable
	case s.maps.has(va):
		return api.CodeAddress
	}
	return api.CodeOK
}

// hasTable: for the addresses around that one.
func (s *space) hasTable(va uint32) bool { return s.tables.has(int(va / tableBytes)) }

// has: is there such a secure page?
func (m *Model) has(page int) bool { return page >= 0 && page < len(m.pages) }

// isPage: a word is held against the number of pages as it stands, so that no bit of it is lost.
func (m *Model) isPage(w uint32) bool { return w < uint32(len(m.pages)) }

func (m *Model) isInsecure(w uint32) bool { return w < uint32(len(m.insecure)) }

// isFree: of a word that is a page.
func (m *Model) isFree(w uint32) bool { return m.pages[w].kind == entry.Free }

// mayBeA: a page that is asked for as one of that type. ErrPage, ErrType.
func (m *Model) mayBeA(kind entry.Type, page int) api.Errno {
	switch {
	case !m.has(page):
		return api.ErrPage
	case m.pages[page].kind != kind:
		return api.ErrType
	}
	return api.OK
}

// mayReach: a word that the system reads or writes. ErrPage, ErrRange.
func (m *Model) mayReach(page, off int) api.Errno {
	switch {
	case page < 0 || page >= len(m.insecure):
		return api.ErrPage
	case off < 0 || off >= api.PageWords:
		return api.ErrRange
	}
	return api.OK
}

// spaceAt: the space that a word names. CodePage, CodeSpace.
func (m *Model) spaceAt(w uint32) (*space, api.Code) {
	switch {
	case !m.isPage(w):
		return nil, api.CodePage
	case m.pages[w].kind != entry.Space:
		return nil, api.CodeSpace
	}
	return &m.pages[w].space, api.CodeOK
}

// buildingAt: the space that a word names, which is being built still. CodePage, CodeSpace, CodeFinal.
func (m *Model) buildingAt(w uint32) (*space, api.Code) {
	s, code := m.spaceAt(w)
	if code == api.CodeOK && s.state != entry.Init {
		return nil, api.CodeFinal
	}
	return s, code
}

// threadAt: the thread that a word names, whose space is final. CodePage, CodeThread, CodeNotFinal.
func (m *Model) threadAt(w uint32) (*thread, api.Code) {
	switch {
	case !m.isPage(w):
		return nil, api.CodePage
	case m.pages[w].kind != entry.Thread:
		return nil, api.CodeThread
	case m.spaceOf(w).state != entry.Final:
		return nil, api.CodeNotFinal
	}
	return &m.pages[w].thread, api.CodeOK
}

// spaceOf: that of a page that isn't free.
func (m *Model) spaceOf(w uint32) *space { return &m.pages[m.pages[w].owner].space }

// holds: has the space pages besides its own?
func (m *Model) holds(owner int) bool {
	for page, r := range m.pages {
		if r.kind != entry.Free && r.owner == owner && page != owner {
			return true
		}
	}
	return false
}
