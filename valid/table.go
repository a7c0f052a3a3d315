package valid

import (
	"warden/api"
	"warden/entry"
	"warden/walk"
)

// namesSeconds: all that is named is a second table of the same Owner, and each of these is named just once.
func (s *state) namesSeconds(first int) bool {
	if !s.isZero(first, api.L1Words, api.PageWords) {
		return false
	}
	owner := s.entries[first].Owner
	named := make([]int, len(s.entries))
	for _, w := range s.words(first, 0, api.L1Words) {
		table, e := walk.ParseFirst(w)
		if e == api.ErrNone {
			continue
		}
		if e != api.OK || !s.isOf(table, entry.Second, owner) {
			return false
		}
		named[table]++
	}
	for page, times := range named {
		if s.isOf(page, entry.Second, owner) && times != 1 {
			return false
		}
	}
	return true
}

// mapsWhatItMay: nothing secure but the data of the table's own space.
func (s *state) mapsWhatItMay(second int) bool {
	for _, w := range s.words(second, 0, api.PageWords) {
		to, e := walk.ParseSecond(w)
		if e == api.ErrNone {
			continue
		}
		if e != api.OK || !s.mayBeMapped(to.Frame, s.entries[second].Owner) {
			return false
		}
	}
	return true
}

func (s *state) mayBeMapped(f api.Frame, owner int) bool {
	if f.Secure {
		return s.isOf(f.Page, entry.Data, owner)
	}
	return s.memory.Has(f)
}

// countMaps: the maps of all second tables are gone through once, for all data pages.
func (s *state) countMaps() []int {
	count := make([]int, len(s.entries))
	for page, table := range s.entries {
		if table.Type != entry.Second {
			continue
		}
		for _, w := range s.words(page, 0, api.PageWords) {
			to, e := walk.ParseSecond(w)
			if e == api.OK && to.Frame.Secure && s.isOf(to.Frame.Page, entry.Data, table.Owner) {
				count[to.Frame.Page]++
			}
		}
	}
	return count
}
