package model

import (
	"warden/api"
	"warden/entry"
	"warden/pagedb"
	"warden/regs"
	"warden/walk"
)

// reader: of records out of the entries and words of a valid state: no error is left to look for.
type reader struct{ *pagedb.DB }

func (r reader) words(f api.Frame) []uint32 {
	words, _ := r.Memory().Page(f)
	return words
}

func (r reader) insecure() [][]uint32 {
	all := make([][]uint32, r.Memory().Insecure())
	for page := range all {
		all[page] = r.words(insecure(uint32(page)))
	}
	return all
}

func (r reader) records() []record {
	all := make([]record, r.Pages())
	for page := range all {
		all[page] = r.record(page)
	}
	return all
}

func (r reader) record(page int) record {
	e, _ := r.Entry(page)
	read := record{kind: e.Type, owner: e.Owner}
	words := r.words(secure(uint32(page)))
	switch e.Type {
	case entry.Data:
		read.words = words
	case entry.Thread:
		saved, _ := regs.Unpack(words[entry.ThreadSaved:entry.ThreadUsed])
		read.thread = thread{begins: words[entry.ThreadEntry], entered: e.Entered, saved: saved}
	case entry.Space:
		read.space = r.space(e.State, words)
	}
	return read
}

func (r reader) space(state entry.State, words []uint32) space {
	s := space{state: state, birth: int(words[entry.SpaceBirth]), draws: int(words[entry.SpaceDraws])}
	copy(s.measurement[:], words[entry.SpaceMeasure:])
	copy(s.digest[:], words[entry.SpaceDigest:])
	if state == entry.Stopped {
		return s
	}
	first := int(words[entry.SpaceFirst])
	for index, w := range r.words(secure(uint32(first)))[:api.L1Words] {
		if page, e := walk.ParseFirst(w); e == api.OK {
			s.tables.put(index, page)
		}
	}
	maps, _ := walk.List(r.Memory(), first)
	for _, at := range maps {
		s.maps.put(at.VA, at.Map)
	}
	return s
}
