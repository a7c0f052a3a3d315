package view

import (
	"iter"

	"warden/api"
	"warden/entry"
	"warden/pagedb"
	"warden/space"
)

// nowhere: no page's number, and no owner's.
const nowhere = -1

// enclave: of a birth, in a database: its space's page, nowhere if it isn't there.
type enclave struct {
	db    *pagedb.DB
	space int
}

// find: the least page counts: in a valid state no birth has two.
func find(d *pagedb.DB, birth int) enclave {
	born := func(page int) bool {
		// A birth below 0 is no word's, though as a word it would be one.
		return typeOf(d, page) == entry.Space && int64(d.Memory().Peek(secure(page), entry.SpaceBirth)) == int64(birth)
	}
	for page := range pages(d.Pages(), born) {
		return enclave{d, page}
	}
	return enclave{d, nowhere}
}

func (e enclave) isThere() bool { return e.space != nowhere }

// state: of the enclave's space, which must be there.
func (e enclave) state() entry.State {
	at, _ := e.db.Entry(e.space)
	return at.State
}

// has: is the page the enclave's? A free page has no owner, though 0 stands in its entry.
func (e enclave) has(page int) bool {
	at, _ := e.db.Entry(page)
	return page == e.space || at.Type != entry.Free && at.Owner == e.space
}

// hides: a page that only the enclave itself may know.
func (e enclave) hides(page int) bool {
	t := typeOf(e.db, page)
	return e.has(page) && (t == entry.Data || t == entry.Thread)
}

// see: a page, by all but the enclave.
func (e enclave) see(page int) Seen {
	at, _ := e.db.Entry(page)
	s := Seen{Hidden: e.hides(page)}
	s.Entry, _ = entry.Encode(at)
	if s.Hidden {
		return s
	}
	s.Words = words(e.db, secure(page))
	if page == e.space {
		s.Words[entry.SpaceDraws] = 0
	}
	return s
}

// seen: the secure pages of which that is so, by number, as they are seen.
func (e enclave) seen(so func(page int) bool) []Seen {
	var list []Seen
	for page := range pages(e.db.Pages(), so) {
		list = append(list, e.see(page))
	}
	return list
}

// open: the words of the insecure pages of which that is so, by number.
func (e enclave) open(so func(page int) bool) [][]uint32 {
	var list [][]uint32
	for page := range pages(e.db.Memory().Insecure(), so) {
		list = append(list, words(e.db, insecure(page)))
	}
	return list
}

// writable: of an insecure page, may the enclave write it? Asked of all pages once, so that one which is mapped twice is still one page.
func (e enclave) writable() func(page int) bool {
	var may [api.MaxInsecure]bool
	list, _ := space.List(e.db, e.space)
	for _, at := range list {
		if f := at.Map.Frame; !f.Secure && at.Map.Write {
			may[f.Page] = true
		}
	}
	return func(page int) bool { return may[page] }
}

// wordless: the same pages, of which nobody is told what stands there.
func wordless(list []Seen) []Seen {
	for k := range list {
		list[k].Words = nil
	}
	return list
}

// pages: out of so many, by number, those of which that is so.
func pages(count int, so func(page int) bool) iter.Seq[int] {
	return func(yield func(int) bool) {
		for page := range count {
			if so(page) && !yield(page) {
				return
			}
		}
	}
}

// each: of every page it is so.
func each(int) bool { return true }

// words: those of a page that there is. The meter counts what the machine touches, not who looks at it.
func words(d *pagedb.DB, f api.Frame) []uint32 {
	list := make([]uint32, api.PageWords)
	for off := range list {
		list[off] = d.Memory().Peek(f, off)
	}
	return list
}

// typeOf: of a page that there is.
func typeOf(d *pagedb.DB, page int) entry.Type {
	at, _ := d.Entry(page)
	return at.Type
}

func secure(page int) api.Frame   { return api.Frame{Secure: true, Page: page} }
func insecure(page int) api.Frame { return api.Frame{Page: page} }
