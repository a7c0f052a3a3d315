package build

import (
	"warden/api"
	"warden/entry"
	"warden/measure"
	"warden/pagedb"
	"warden/space"
	"warden/walk"
)

// site: a space that is being built. All that can be refused, the new digest too, is asked for ahead of the first change, so that a call that gives up leaves all as it was.
type site struct {
	db   *pagedb.DB
	page int // the space's
}

// begin: a new space, of which nothing is measured yet.
func begin(d *pagedb.DB, spaceWord, firstWord uint32) {
	page := securePage(d, spaceWord)
	first := securePage(d, firstWord)
	insist(page != first, api.CodeArg)
	insistFree(d, page)
	insistFree(d, first)
	insist(d.Births() < api.MaxStreams, api.CodeStreams)
	d.TakeSpace(page, first)
	start := measure.Start()
	site{d, page}.layDigest(start[:])
}

// open: the site of a space whose building hasn't ended.
func open(d *pagedb.DB, spaceWord uint32) site {
	page := securePage(d, spaceWord)
	e, _ := d.Entry(page)
	insist(e.Type == entry.Space, api.CodeSpace)
	insist(e.State == entry.Init, api.CodeFinal)
	return site{d, page}
}

func (s site) addThread(pageWord, begins uint32) {
	page := securePage(s.db, pageWord)
	insistFree(s.db, page)
	digest := s.extended(measure.Op{Kind: measure.Thread, Arg: begins})
	s.take(page, entry.Thread)
	s.db.Memory().Write(secure(page), entry.ThreadEntry, begins)
	s.layDigest(digest)
}

func (s site) addTable(pageWord, index uint32) {
	page := securePage(s.db, pageWord)
	insist(index < api.L1Words, api.CodeArg)
	insistFree(s.db, page)
	s.insistNoTable(int(index))
	digest := s.extended(measure.Op{Kind: measure.Table, Arg: index})
	s.take(page, entry.Second)
	space.AddTable(s.db, s.page, int(index), page)
	s.layDigest(digest)
}

func (s site) addData(pageWord, mapping, insecure uint32) {
	page := securePage(s.db, pageWord)
	m := parsed(mapping)
	from := insecurePage(s.db, insecure)
	insistFree(s.db, page)
	s.insistEmpty(m.VA)
	words, _ := s.db.Memory().Page(from)
	digest := s.extended(measure.Op{Kind: measure.Data, Arg: mapping, Words: words})
	s.take(page, entry.Data)
	s.db.Memory().Lay(secure(page), words)
	s.put(m, secure(page))
	s.layDigest(digest)
}

func (s site) addShare(mapping, insecure uint32) {
	m := parsed(mapping)
	insist(!m.Exec, api.CodeMapping)
	to := insecurePage(s.db, insecure)
	s.insistEmpty(m.VA)
	digest := s.extended(measure.Op{Kind: measure.Share, Arg: mapping})
	s.put(m, to)
	s.layDigest(digest)
}

// insistNoTable: that the space's table has nothing at that index. It is asked here, for space.AddTable asks only of a page that is taken already.
func (s site) insistNoTable(index int) {
	table, e := space.Table(s.db, s.page)
	insist(e == api.OK, api.CodeTable)
	w, _ := s.db.Memory().Read(secure(table), index)
	insist(w == 0, api.CodeAddress)
}

// insistEmpty: that a page can be mapped at that address.
func (s site) insistEmpty(va uint32) {
	e := space.Slot(s.db, s.page, va)
	insist(e != api.ErrSlot, api.CodeAddress)
	insist(e == api.OK, api.CodeTable)
}

// take: a free page becomes the space's. In a valid state none is refused: while a page is free, no space owns as many as can be counted.
func (s site) take(page int, t entry.Type) {
	insist(s.db.Take(page, t, s.page) == api.OK, api.CodeUsed)
}

func (s site) put(m space.Mapping, to api.Frame) {
	space.Put(s.db, s.page, m.VA, walk.Map{Frame: to, Write: m.Write, Exec: m.Exec})
}

func secure(page int) api.Frame { return api.Frame{Secure: true, Page: page} }
