package valid

import (
	"warden/api"
	"warden/entry"
	"warden/regs"
)

// clauses: from number 1 on, whether each holds at a page.
func (s *state) clauses() [Clauses]func(page int) bool {
	return [Clauses]func(page int) bool{
		s.at(entry.Space, func(p int) bool { return s.entries[p].Owner == p }),
		s.at(entry.Free, s.isBlank),
		func(p int) bool {
			t := s.entries[p].Type
			return t == entry.Free || t == entry.Space || s.hasSpace(p)
		},
		s.at(entry.Space, func(p int) bool { return s.entries[p].Refs == len(s.db.Owned(p)) }),
		s.at(entry.Space, s.isBornAlone),
		s.at(entry.Space, s.fitsItsState),
		s.at(entry.Space, s.hasOneFirst),
		s.atAlive(entry.First, s.namesSeconds),
		s.atAlive(entry.Second, s.mapsWhatItMay),
		s.atAlive(entry.Data, func(p int) bool { return s.mapped[p] == 1 }),
		s.at(entry.Thread, s.isWholeThread),
		s.at(entry.Spare, s.isBlank),
	}
}

// at: a clause that speaks of pages of one type; at all others it holds.
func (s *state) at(t entry.Type, so func(page int) bool) func(page int) bool {
	return func(p int) bool { return s.entries[p].Type != t || so(p) }
}

// atAlive: one that speaks of those that are alive alone.
func (s *state) atAlive(t entry.Type, so func(page int) bool) func(page int) bool {
	return s.at(t, func(p int) bool { return !s.isAlive(p) || so(p) })
}

// isWholeThread: what is saved is a file while the thread is interrupted, which none is whose space is still built; else nothing is.
func (s *state) isWholeThread(thread int) bool {
	if !s.isZero(thread, entry.ThreadUsed, api.PageWords) {
		return false
	}
	if !s.entries[thread].Entered {
		return s.isZero(thread, entry.ThreadSaved, entry.ThreadSaved+regs.PackWords)
	}
	_, e := regs.Unpack(s.words(thread, entry.ThreadSaved, entry.ThreadSaved+regs.PackWords))
	// What is no space has no state: without a space the thread isn't asked for one.
	return e == api.OK && s.owner(thread).State != entry.Init
}
