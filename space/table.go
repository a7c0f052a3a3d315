package space

import (
	"iter"

	"warden/api"
	"warden/entry"
	"warden/mem"
	"warden/pagedb"
	"warden/walk"
)

// place: a word of a secure page. Who may only ask for it is handed its read alone.
type place struct {
	memory    *mem.Memory
	page, off int
}

// read, lay: of a place that there is, so that neither is refused.
func (p place) read() uint32 {
	w, _ := p.memory.Read(api.Frame{Secure: true, Page: p.page}, p.off)
	return w
}
func (p place) lay(w uint32) { p.memory.Write(api.Frame{Secure: true, Page: p.page}, p.off, w) }

// turn: what stands at a place becomes what next makes of it; with an error it stays.
func turn(read func() uint32, lay func(uint32), next func(was uint32) (uint32, api.Errno)) api.Errno {
	w, e := next(read())
	if e == api.OK {
		lay(w)
	}
	return e
}

// filled: an empty place's next word, a descriptor of either level; a place that isn't empty is refused ahead of what the descriptor is of.
func filled[T any](descriptor func(T) (uint32, api.Errno), of T) func(uint32) (uint32, api.Errno) {
	return func(was uint32) (uint32, api.Errno) {
		if was != 0 {
			return 0, api.ErrSlot
		}
		return descriptor(of)
	}
}

// emptied: the next word of a place at which something stands.
func emptied(was uint32) (uint32, api.Errno) {
	if was == 0 {
		return 0, api.ErrNone
	}
	return 0, api.OK
}

// tables: those of a space that isn't stopped, from its first-level one on.
type tables struct {
	db           *pagedb.DB
	space, first int
}

// follow: the tables of a space; the errors are Table's.
func follow(d *pagedb.DB, space int) (tables, api.Errno) {
	s, e := d.Entry(space)
	switch {
	case e != api.OK:
		return tables{}, e
	case s.Type != entry.Space:
		return tables{}, api.ErrType
	case s.State == entry.Stopped:
		return tables{}, api.ErrState
	}
	t := tables{db: d, space: space}
	t.first = int(t.place(space, entry.SpaceFirst).read())
	if !t.owns(t.first, entry.First) {
		return tables{}, api.ErrType
	}
	return t, api.OK
}

// owns: is it a page of that type, and of this space? (Of a number that is no page's the entry is a free one's.)
func (t tables) owns(page int, kind entry.Type) bool {
	e, _ := t.db.Entry(page)
	return e.Type == kind && e.Owner == t.space
}

func (t tables) place(page, off int) place { return place{t.db.Memory(), page, off} }

// second: the second-level table that a word of the first-level one names. A table that isn't the space's own is none.
func (t tables) second(read func() uint32) (int, bool) {
	page, e := walk.ParseFirst(read())
	return page, e == api.OK && t.owns(page, entry.Second)
}

// find: the place of an address.
func find(d *pagedb.DB, space int, va uint32) (place, api.Errno) {
	t, e := follow(d, space)
	if e != api.OK {
		return place{}, e
	}
	i, j, _, e := walk.Split(va)
	if e != api.OK {
		return place{}, e
	}
	table, is := t.second(t.place(t.first, i).read)
	if !is {
		return place{}, api.ErrNoTable
	}
	return t.place(table, j), api.OK
}

// mapped: the map that stands at a place of a second-level table. ErrNone, ErrTable.
func mapped(m *mem.Memory, read func() uint32) (walk.Map, api.Errno) {
	to, e := walk.ParseSecond(read())
	if e == api.OK && !m.Has(to.Frame) {
		return walk.Map{}, api.ErrTable
	}
	return to, e
}

// places: a table from its first word on.
func (t tables) places(table, words int) iter.Seq2[int, place] {
	return func(yield func(int, place) bool) {
		for off := range words {
			if !yield(off, t.place(table, off)) {
				return
			}
		}
	}
}

// under: what the second-level table of a first-level index maps, rising.
func (t tables) under(i, table int) []walk.At {
	var list []walk.At
	for j, p := range t.places(table, api.PageWords) {
		if to, e := mapped(t.db.Memory(), p.read); e == api.OK {
			va, _ := walk.Join(i, j, 0)
			list = append(list, walk.At{VA: va, Map: to})
		}
	}
	return list
}
