package valid

import (
	"warden/api"
	"warden/entry"
	"warden/sha"
)

// digestEnd: the words of a running digest stand ahead of it.
const digestEnd = entry.SpaceDigest + sha.StateWords

// isBornAlone: of two spaces with one birth the clause breaks at the higher page alone.
func (s *state) isBornAlone(space int) bool {
	birth := s.word(space, entry.SpaceBirth)
	for lower := range space {
		if s.entries[lower].Type == entry.Space && s.word(lower, entry.SpaceBirth) == birth {
			return false
		}
	}
	return birth < uint32(s.db.Births()) && s.word(space, entry.SpaceDraws) <= api.MaxDraws
}

// fitsItsState: a space may be stopped while it is built or when it is final, and keeps the words it had.
func (s *state) fitsItsState(space int) bool {
	if !s.isZero(space, entry.SpaceUsed, api.PageWords) {
		return false
	}
	switch s.entries[space].State {
	case entry.Init:
		return s.isInBuilding(space)
	case entry.Final:
		return s.isMeasured(space)
	}
	return s.isInBuilding(space) || s.isMeasured(space)
}

// isInBuilding: its words are as those of a space in the state Init.
func (s *state) isInBuilding(space int) bool {
	_, e := sha.Load(s.words(space, entry.SpaceDigest, digestEnd))
	return e == api.OK && s.isZero(space, entry.SpaceMeasure, entry.SpaceDigest)
}

// isMeasured: its words are as those of a space in the state Final, with whatever measurement.
func (s *state) isMeasured(space int) bool {
	return s.isZero(space, entry.SpaceDigest, digestEnd)
}

// hasOneFirst: just one page is a first table of the space, and the space's word says which.
func (s *state) hasOneFirst(space int) bool {
	if s.entries[space].State == entry.Stopped {
		return true
	}
	var tables []uint32
	for page := range s.entries {
		if s.isOf(page, entry.First, space) {
			tables = append(tables, uint32(page))
		}
	}
	return len(tables) == 1 && tables[0] == s.word(space, entry.SpaceFirst)
}
