package space_test

import (
	"testing"

	"warden/api"
	"warden/entry"
	"warden/mem"
	"warden/pagedb"
)

// wants: an answer as the test itself asks for it.
func (w world) wants(what string, got, want api.Errno) {
	w.Helper()
	if got != want {
		w.Fatalf("%s = %d; want %d", what, got, want)
	}
}

func machine(t *testing.T, pages, others int) *mem.Memory {
	t.Helper()
	m, e := mem.New(pages, others)
	world{T: t}.wants("mem.New", e, api.OK)
	return m
}

// begin: the database of the chapter's examples: page 0 a space, page 1 its table, pages 2 and 4 of the type Second, page 3 data.
func begin(t *testing.T) world {
	t.Helper()
	w := over(t, pagedb.New(machine(t, 8, 2)))
	w.wants("TakeSpace", w.d.TakeSpace(0, 1), api.OK)
	for page, kind := range map[int]entry.Type{2: entry.Second, 3: entry.Data, 4: entry.Second} {
		w.wants("Take", w.d.Take(page, kind, 0), api.OK)
	}
	return w
}

// lay: a word past all calls of the package.
func (w world) lay(page, off int, v uint32) {
	w.Helper()
	w.wants("Write", w.d.Memory().Write(secure(page), off, v), api.OK)
}

// with: the same memory under one entry that is another.
func (w world) with(page int, x entry.Entry) world {
	w.Helper()
	words := w.d.Words()
	pair, e := entry.Encode(x)
	w.wants("Encode", e, api.OK)
	copy(words[1+2*page:], pair[:])
	d, e := pagedb.Load(w.d.Memory(), words)
	w.wants("Load", e, api.OK)
	w.d = d
	return w
}

func TestTableExamples(t *testing.T) {
	w := begin(t)
	if table, e := w.table(0); table != 1 || e != api.OK {
		t.Fatalf("the sums tell the table %d, %d", table, e)
	}
	w.wants("P14.2: Table(0)", w.Table(0), api.OK)
	w.wants("P14.2: Table(8)", w.Table(8), api.ErrPage)
	w.wants("P14.2: Table(-1)", w.Table(-1), api.ErrPage)
	w.wants("P14.2: Table(1)", w.Table(1), api.ErrType)
	w.wants("P14.2: Table(5)", w.Table(5), api.ErrType)
	w.d.SetState(0, entry.Final)
	w.wants("P14.2: Table(0) of a final space", w.Table(0), api.OK)
	w.d.SetState(0, entry.Stopped)
	w.wants("P14.2: Table(0) of a stopped space", w.Table(0), api.ErrState)
}

func TestAddTableExamples(t *testing.T) {
	w := begin(t)
	w.wants("P14.3: AddTable(0, 0, 2)", w.AddTable(0, 0, 2), api.OK)
	if got := w.word(1, 0); got != 0x201 {
		t.Fatalf("P14.3: the word of the table is %#x", got)
	}
	w.wants("P14.3: again", w.AddTable(0, 0, 2), api.ErrSlot)
	w.wants("P14.3: AddTable(0, 256, 9)", w.AddTable(0, 256, 9), api.ErrRange)
	w.wants("P14.3: AddTable(0, 1, 9)", w.AddTable(0, 1, 9), api.ErrPage)
	w.wants("P14.3: AddTable(0, 1, 3)", w.AddTable(0, 1, 3), api.ErrType)
}

// The word that names the table may be anything: of a page that isn't there, of another type, of another space.
func TestWordsThatNameNoTable(t *testing.T) {
	w := begin(t)
	w.wants("TakeSpace", w.d.TakeSpace(6, 7), api.OK)
	for v, want := range map[uint32]api.Errno{
		0: api.ErrType, 1: api.OK, 2: api.ErrType, 3: api.ErrType, 5: api.ErrType, 6: api.ErrType, 7: api.ErrType,
		8: api.ErrType, 63: api.ErrType, 64: api.ErrType, 0x101: api.ErrType, 0x1000: api.ErrType, 0x10001: api.ErrType, 0x80000001: api.ErrType, 0xffffffff: api.ErrType,
	} {
		w.lay(0, entry.SpaceFirst, v)
		w.wants("P14.2: Table(0)", w.Table(0), want)
		w.wants("P14.2: Table(6)", w.Table(6), api.OK)
		for _, e := range []api.Errno{w.AddTable(0, 9, 2), w.AddTable(0, 999, 999), w.Slot(0, 1), w.Put(0, 1, noMaps()[0]), w.Cut(0, 1)} {
			if want != api.OK {
				w.wants("P14.2: ahead of all else", e, want)
			}
		}
		_, atE := w.At(0, 3)
		_, listE := w.List(0)
		w.wants("P14.8: List", listE, want)
		if want != api.OK {
			w.wants("P14.7: At", atE, want)
		}
		w.lay(1, 9, 0)
	}
}

// A stopped space is refused ahead of the table that it hasn't.
func TestStoppedAndNoSpace(t *testing.T) {
	w := begin(t)
	w.AddTable(0, 0, 2)
	w.wants("SetState", w.d.SetState(0, entry.Stopped), api.OK)
	for _, v := range []uint32{1, 2, 0xffffffff} {
		w.lay(0, entry.SpaceFirst, v)
		w.everywhere(0, api.ErrState)
	}
	for page := 1; page < 8; page++ {
		w.everywhere(page, api.ErrType)
	}
	for _, n := range noPages {
		w.everywhere(n, api.ErrPage)
	}
}

// everywhere: all calls that are told of a space, with arguments that are wrong too, refuse it first.
func (w world) everywhere(n int, want api.Errno) {
	w.Helper()
	_, at := w.At(n, 0xffffffff)
	_, there := w.At(n, 0)
	_, list := w.List(n)
	for _, e := range []api.Errno{w.Table(n), w.AddTable(n, 256, -1), w.AddTable(n, 1, 4), w.Slot(n, 2), w.Slot(n, 0), w.Put(n, 2, noMaps()[0]), w.Put(n, 0, noMaps()[0]), w.Cut(n, 2), w.Cut(n, 0), at, there, list} {
		w.wants("P14.2: a call of that space", e, want)
	}
}

// A loaded database may hold a space that isn't its own, and tables of whom they like: a table is the space's that owns it.
func TestEntriesThatDontGoTogether(t *testing.T) {
	w := begin(t)
	w.wants("P14.2: a space of another's", w.with(0, entry.Entry{Type: entry.Space, Owner: 5, State: entry.Final}).Table(0), api.OK)
	w.wants("P14.2: a table of another's", w.with(1, entry.Entry{Type: entry.First, Owner: 3}).Table(0), api.ErrType)
	w.wants("P14.2: a table of another type", w.with(1, entry.Entry{Type: entry.Second}).Table(0), api.ErrType)
	w.wants("P14.2: a free page of a space 0", w.with(1, entry.Entry{}).Table(0), api.ErrType)
	for _, x := range []entry.Entry{{}, {Type: entry.Data}, {Type: entry.Second}, {Type: entry.First}, {Type: entry.Spare}, {Type: entry.Thread, Entered: true}} {
		w.with(0, x).everywhere(0, api.ErrType)
	}
	w.wants("P14.3: a table of another's", w.with(2, entry.Entry{Type: entry.Second, Owner: 1}).AddTable(0, 3, 2), api.ErrType)
	w.AddTable(0, 3, 2)
	for _, x := range []entry.Entry{{}, {Type: entry.Second, Owner: 7}, {Type: entry.First}, {Type: entry.Data}, {Type: entry.Spare}, {Type: entry.Thread}, {Type: entry.Space, State: entry.Init}} {
		v := w.with(2, x)
		w.wants("P14.4: a table that was one", v.Slot(0, 3<<22), api.ErrNoTable)
		v.List(0)
	}
	w.wants("P14.4: the table again", w.Slot(0, 3<<22), api.OK)
}

func TestAddTableAtEveryIndex(t *testing.T) {
	w := begin(t)
	for index := range 256 {
		w.wants("P14.3: AddTable", w.AddTable(0, index, 2+2*(index%2)), api.OK)
		w.wants("P14.3: AddTable again", w.AddTable(0, index, 2), api.ErrSlot)
	}
	for _, index := range noIndices {
		for _, l2 := range []int{-1, 2, 3, 8} {
			w.wants("P14.3: AddTable at no index", w.AddTable(0, index, l2), api.ErrRange)
		}
	}
}

// Whatever stands there, descriptor or not, is in the way; but a page that may not be a table is refused first.
func TestAddTableWhereSomethingStands(t *testing.T) {
	w := begin(t)
	w.wants("TakeSpace", w.d.TakeSpace(6, 7), api.OK)
	for _, v := range []uint32{1, 2, 0x100, 0x201, 0x401, 0x40000000, 0x80000000, 0xffffffff, 0} {
		w.lay(1, 77, v)
		w.lay(1, 78, ^v)
		for _, n := range noPages {
			w.wants("P14.3: AddTable of no page", w.AddTable(0, 77, n), api.ErrPage)
		}
		for _, n := range []int{0, 1, 3, 5, 6, 7} {
			w.wants("P14.3: AddTable of no table", w.AddTable(0, 77, n), api.ErrType)
		}
		w.wants("P14.3: AddTable of another's", w.AddTable(6, 77, 2), api.ErrType)
		if v != 0 {
			w.wants("P14.3: AddTable", w.AddTable(0, 77, 2), api.ErrSlot)
		}
	}
	w.wants("P14.3: AddTable", w.AddTable(0, 77, 2), api.OK)
}
