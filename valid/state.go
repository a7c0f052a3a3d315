package valid

import (
	"warden/api"
	"warden/entry"
	"warden/mem"
	"warden/pagedb"
)

// state: what the clauses speak of.
type state struct {
	db      *pagedb.DB
	memory  *mem.Memory
	entries []entry.Entry // of all pages: most clauses ask for those of other pages again and again
	mapped  []int         // of all data pages: how many words of the second tables with the same Owner are maps of it
}

func look(d *pagedb.DB) *state {
	s := &state{db: d, memory: d.Memory()}
	for page := range d.Pages() {
		e, _ := d.Entry(page)
		s.entries = append(s.entries, e)
	}
	s.mapped = s.countMaps()
	return s
}

// word: looked at by Peek, here and nowhere else, so that nothing is touched.
func (s *state) word(page, off int) uint32 {
	return s.memory.Peek(api.Frame{Secure: true, Page: page}, off)
}

// words: those of a page from one place up to another, which is left out.
func (s *state) words(page, from, to int) []uint32 {
	list := make([]uint32, to-from)
	for n := range list {
		list[n] = s.word(page, from+n)
	}
	return list
}

// isZero: are the words that words tells all 0?
func (s *state) isZero(page, from, to int) bool {
	for off := from; off < to; off++ {
		if s.word(page, off) != 0 {
			return false
		}
	}
	return true
}

// isBlank: a page that holds nothing.
func (s *state) isBlank(page int) bool { return s.isZero(page, 0, api.PageWords) }

// isOf: is there such a page, of that type and with that Owner? (A descriptor's number is never below 0.)
func (s *state) isOf(page int, t entry.Type, owner int) bool {
	return page < len(s.entries) && s.entries[page].Type == t && s.entries[page].Owner == owner
}

// owner: the entry of the page that the Owner of a page names. (The database takes no Owner that is no page.)
func (s *state) owner(page int) entry.Entry { return s.entries[s.entries[page].Owner] }

// hasSpace: of a page that is no space.
func (s *state) hasSpace(page int) bool { return s.owner(page).Type == entry.Space }

// isAlive: of a page that is no space. Of a stopped one nobody follows the tables any more.
func (s *state) isAlive(page int) bool {
	return s.hasSpace(page) && s.owner(page).State != entry.Stopped
}
