package pagedb_test

import (
	"math"
	"testing"

	"warden/api"
	"warden/entry"
	"warden/mem"
	"warden/pagedb"
)

// plain: a database as the chapter's sentences tell it: a list of entries, a number, and a memory of its own that is written word by word.
type plain struct {
	memory  *mem.Memory
	entries []entry.Entry
	births  int
}

func secure(page int) api.Frame { return api.Frame{Secure: true, Page: page} }

func memory(t *testing.T, pages int) *mem.Memory {
	t.Helper()
	m, e := mem.New(pages, 2)
	if e != api.OK {
		t.Fatalf("mem.New(%d, 2): %d", pages, e)
	}
	return m
}

// both: a new database, and the plain one, over memories of the same words.
func both(t *testing.T, pages int) (*pagedb.DB, *plain) {
	t.Helper()
	d, p := pagedb.New(memory(t, pages)), &plain{memory: memory(t, pages), entries: make([]entry.Entry, pages)}
	for page := range pages {
		p.wipe(page)
	}
	return d, p
}

func (p *plain) there(page int) bool { return page >= 0 && page < len(p.entries) }

func (p *plain) is(page int, kind entry.Type) bool {
	return p.there(page) && p.entries[page].Type == kind
}

func (p *plain) wipe(page int) {
	for off := range 1024 {
		p.memory.Write(secure(page), off, 0)
	}
}

// owned: every page but itself that isn't free and has that owner, of a space.
func (p *plain) owned(space int) []int {
	list := []int{}
	for page, e := range p.entries {
		if p.is(space, entry.Space) && page != space && !p.is(page, entry.Free) && e.Owner == space {
			list = append(list, page)
		}
	}
	return list
}

func (p *plain) free() int {
	count := 0
	for page := range p.entries {
		if p.is(page, entry.Free) {
			count++
		}
	}
	return count
}

// first: the error of the first that applies.
func first(applies ...any) api.Errno {
	for i := 0; i < len(applies); i += 2 {
		if applies[i].(bool) {
			return applies[i+1].(api.Errno)
		}
	}
	return api.OK
}

func (p *plain) takeSpace(space, table int) api.Errno {
	e := first(
		!p.there(space), api.ErrPage,
		!p.there(table), api.ErrPage,
		space == table, api.ErrArg,
		!p.is(space, entry.Free), api.ErrUsed,
		!p.is(table, entry.Free), api.ErrUsed,
		p.births == 64, api.ErrFull,
	)
	if e == api.OK {
		p.entries[table] = entry.Entry{Type: 3, Owner: space}
		p.entries[space] = entry.Entry{Type: 1, Owner: space, Refs: 1, State: 1}
		for off, w := range []int{table, p.births, 0} {
			p.memory.Write(secure(space), off, uint32(w))
		}
		p.births++
	}
	return e
}

func (p *plain) take(page int, kind entry.Type, space int) api.Errno {
	e := first(
		!p.there(page), api.ErrPage,
		kind != 2 && kind != 4 && kind != 5 && kind != 6, api.ErrType,
		!p.is(space, entry.Space) || p.entries[space].Refs == 63, api.ErrOwner,
		!p.is(page, entry.Free), api.ErrUsed,
	)
	if e == api.OK {
		p.entries[page] = entry.Entry{Type: kind, Owner: space}
		p.entries[space].Refs++
	}
	return e
}

func (p *plain) turn(page int, kind entry.Type) api.Errno {
	e := first(
		!p.there(page), api.ErrPage,
		!p.is(page, 4) && !p.is(page, 5) && !p.is(page, 6), api.ErrType,
		kind < 4 || kind > 6, api.ErrType,
	)
	if e == api.OK {
		p.entries[page].Type = kind
		p.wipe(page)
	}
	return e
}

func (p *plain) give(page int) api.Errno {
	e := first(
		!p.there(page), api.ErrPage,
		p.is(page, entry.Free), api.ErrFree,
		p.is(page, entry.Space) && p.entries[page].Refs > 0, api.ErrHeld,
	)
	if e == api.OK {
		was := p.entries[page]
		if was.Type != entry.Space && p.is(was.Owner, entry.Space) && p.entries[was.Owner].Refs > 0 {
			p.entries[was.Owner].Refs--
		}
		p.entries[page] = entry.Entry{}
		p.wipe(page)
	}
	return e
}

func (p *plain) setState(space int, s entry.State) api.Errno {
	e := first(!p.there(space), api.ErrPage, !p.is(space, entry.Space), api.ErrType)
	if e != api.OK {
		return e
	}
	if s == 3 || s == 2 && p.entries[space].State == 1 {
		p.entries[space].State = s
		return api.OK
	}
	return api.ErrState
}

func (p *plain) setEntered(thread int, on bool) api.Errno {
	e := first(!p.there(thread), api.ErrPage, !p.is(thread, entry.Thread), api.ErrType)
	if e == api.OK {
		p.entries[thread].Entered = on
	}
	return e
}

// words: by sums of the fields, each times where it stands.
func (p *plain) words() []uint32 {
	list := []uint32{uint32(p.births)}
	for _, e := range p.entries {
		w := int(e.Type) + 16*int(e.State) + 65536*e.Owner
		if e.Entered {
			w += 256
		}
		list = append(list, uint32(w), uint32(e.Refs))
	}
	return list
}

func (p *plain) clone() *plain {
	return &plain{p.memory.Clone(), append([]entry.Entry(nil), p.entries...), p.births}
}

// wild: numbers that are no pages of a small memory, among them such as are small again when their upper bits are cut off.
var wild = []int{math.MinInt, math.MinInt32, -1 << 16, -64, -2, -1, 63, 64, 65, 255, 256, 1 << 16, 1<<16 + 1, math.MaxInt32, 1 << 32, 1<<32 + 1, 1<<32 + 2, math.MaxInt}

// around: all pages of a memory with so many, and numbers that are none.
func around(pages int) []int {
	list := append([]int{pages, pages + 1}, wild...)
	for page := range pages {
		list = append(list, page)
	}
	return list
}
