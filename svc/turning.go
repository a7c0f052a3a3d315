package svc

import (
	"warden/api"
	"warden/entry"
	"warden/space"
	"warden/walk"
)

// turning: a call that turns the page in r1 into one of another type. All that can be refused is asked for ahead of the first change, so that none of the changes is.
type turning struct{ caller }

func (t turning) mapSpare() answer {
	m, code := t.mapping(entry.Spare, api.CodeSpare)
	if code != api.CodeOK {
		return t.goOn(code)
	}
	switch space.Slot(t.db, t.space, m.VA) {
	case api.ErrNoTable:
		return t.goOn(api.CodeTable)
	case api.ErrSlot:
		return t.goOn(api.CodeAddress)
	}
	t.db.Turn(t.page(), entry.Data)
	space.Put(t.db, t.space, m.VA, t.as(m))
	return t.goOn(api.CodeOK)
}

func (t turning) unmapData() answer {
	m, code := t.mapping(entry.Data, api.CodeData)
	if code != api.CodeOK {
		return t.goOn(code)
	}
	at, e := space.At(t.db, t.space, m.VA)
	switch {
	case e == api.ErrNoTable:
		return t.goOn(api.CodeTable)
	case e != api.OK || at != t.as(m): // a descriptor is of one map alone, so maps that are the same have the same word
		return t.goOn(api.CodeAddress)
	}
	// It is cut first: a spare page is mapped nowhere.
	space.Cut(t.db, t.space, m.VA)
	t.db.Turn(t.page(), entry.Spare)
	return t.goOn(api.CodeOK)
}

func (t turning) addTable() answer {
	index := t.file.R[2]
	switch {
	case !t.names(entry.Spare):
		return t.goOn(api.CodeSpare)
	case index >= api.L1Words:
		return t.goOn(api.CodeArg)
	case t.named(int(index)):
		return t.goOn(api.CodeAddress)
	}
	t.db.Turn(t.page(), entry.Second)
	space.AddTable(t.db, t.space, int(index), t.page())
	return t.goOn(api.CodeOK)
}

// page: the number in r1, be it a page's or not.
func (t turning) page() int { return int(t.file.R[1]) }

// names: is r1 a page of that type? (Of a number that is no page's the entry is a free one's.)
func (t turning) names(kind entry.Type) bool {
	e, _ := t.db.Entry(t.page())
	return e.Type == kind && e.Owner == t.space
}

// mapping: what the word in r2 says, of a page that must be of that type; else the code that stands against it.
func (t turning) mapping(kind entry.Type, another api.Code) (space.Mapping, api.Code) {
	if !t.names(kind) {
		return space.Mapping{}, another
	}
	m, e := space.Parse(t.file.R[2])
	if e != api.OK {
		return space.Mapping{}, api.CodeMapping
	}
	return m, api.CodeOK
}

// named: does the space's table hold anything at that index? It is asked here, for space.AddTable asks only of a page that is a Second already.
func (t turning) named(index int) bool {
	w, _ := t.db.Memory().Read(secure(t.table), index)
	return w != 0
}

// as: the map of the page in r1 by what the mapping word in r2 says.
func (t turning) as(m space.Mapping) walk.Map {
	return walk.Map{Frame: secure(t.page()), Write: m.Write, Exec: m.Exec}
}
