package space_test

import (
	"fmt"
	"slices"
	"strings"
	"testing"

	"warden/api"
	"warden/entry"
	"warden/pagedb"
	"warden/space"
	"warden/walk"
)

func secure(page int) api.Frame { return api.Frame{Secure: true, Page: page} }

func insecure(page int) api.Frame { return api.Frame{Page: page} }

// maps: every word that is a second-level descriptor, counted up, and its map.
func maps() map[uint32]walk.Map {
	all := map[uint32]walk.Map{}
	for page := range 64 {
		for _, low := range []int{1, 3, 5, 7, 11, 15} {
			f := api.Frame{Secure: low%4 == 3, Page: page}
			all[uint32(256*page+low)] = walk.Map{Frame: f, Write: low%8 >= 4, Exec: low >= 8}
		}
	}
	return all
}

// sums: the chapter's sentences over a database, looked at by Peek: tables are searched for among all pages, words among all descriptors.
type sums struct {
	d    *pagedb.DB
	maps map[uint32]walk.Map
}

func (s sums) word(page, off int) uint32 { return s.d.Memory().Peek(secure(page), off) }

// ofType: the page of that number that a space owns, if there is one of that type; -1 else.
func (s sums) ofType(number uint32, t entry.Type, owner int) int {
	for page := range s.d.Pages() {
		e, _ := s.d.Entry(page)
		if uint32(page) == number && e == (entry.Entry{Type: t, Owner: owner}) {
			return page
		}
	}
	return -1
}

func (s sums) table(n int) (int, api.Errno) {
	e, bad := s.d.Entry(n)
	if bad != api.OK {
		return 0, api.ErrPage
	}
	if e.Type != entry.Space {
		return 0, api.ErrType
	}
	if e.State == entry.Stopped {
		return 0, api.ErrState
	}
	if table := s.ofType(s.word(n, 0), entry.First, n); table >= 0 {
		return table, api.OK
	}
	return 0, api.ErrType
}

// second: the second-level table that a word names; -1 without one.
func (s sums) second(n int, w uint32) int {
	if w%256 != 1 {
		return -1
	}
	return s.ofType(w/256, entry.Second, n)
}

func (s sums) place(n int, va uint32) (page, off int, e api.Errno) {
	table, e := s.table(n)
	switch {
	case e != api.OK:
		return 0, 0, e
	case va%4 != 0 || va >= 0x40000000:
		return 0, 0, api.ErrVA
	}
	page = s.second(n, s.word(table, int(va/0x400000)))
	if page < 0 {
		return 0, 0, api.ErrNoTable
	}
	return page, int(va/0x1000) % 1024, api.OK
}

// told: the map that a word of a second-level table says.
func (s sums) told(w uint32) (walk.Map, api.Errno) {
	if w == 0 {
		return walk.Map{}, api.ErrNone
	}
	m, is := s.maps[w]
	if !is || m.Frame.Secure && m.Frame.Page >= s.d.Pages() || !m.Frame.Secure && m.Frame.Page >= s.d.Memory().Insecure() {
		return walk.Map{}, api.ErrTable
	}
	return m, api.OK
}

// laid: the word of a map.
func (s sums) laid(m walk.Map) (uint32, api.Errno) {
	for w, is := range s.maps {
		if is == m {
			return w, api.OK
		}
	}
	if m.Frame.Page < 0 || m.Frame.Page > 63 {
		return 0, api.ErrRange
	}
	return 0, api.ErrArg
}

func (s sums) list(n int) ([]walk.At, api.Errno) {
	table, e := s.table(n)
	if e != api.OK {
		return nil, e
	}
	var all []walk.At
	for number := range uint32(256 * 1024) {
		l2 := s.second(n, s.word(table, int(number/1024)))
		if l2 < 0 {
			continue
		}
		if m, e := s.told(s.word(l2, int(number%1024))); e == api.OK {
			all = append(all, walk.At{VA: number * 4096, Map: m})
		}
	}
	return all, api.OK
}

// world: a database, of which everything that is asked is held against the sums.
type world struct {
	*testing.T
	sums
	seen map[answer]int // how often each came
}

// answer: a call's name, and what it answered.
type answer struct {
	call string
	e    api.Errno
}

func over(t *testing.T, d *pagedb.DB) world {
	return world{T: t, sums: sums{d: d, maps: maps()}, seen: map[answer]int{}}
}

// change: the word that a call names, and what it becomes.
type change struct {
	page, off int
	word      uint32
}

// touch: does a call and sees that it leaves all as it was but the words that are told, and touches no more than four.
func (w world) touch(what string, call func() api.Errno, becomes ...change) api.Errno {
	w.Helper()
	m, entries := w.d.Memory(), w.d.Words()
	want := m.Clone()
	for _, c := range becomes {
		want.Write(secure(c.page), c.off, c.word)
	}
	meter := m.Meter()
	e := call()
	if n := m.Meter() - meter; n > 4 && what[:4] != "List" {
		w.Fatalf("P14.9: %s touches %d words", what, n)
	}
	if !m.Same(want) {
		w.Fatalf("P14.9: %s = %d: the words aren't those that are asked for (%v)", what, e, becomes)
	}
	if !slices.Equal(w.d.Words(), entries) {
		w.Fatalf("P14.9: %s changes entries", what)
	}
	return e
}

// is: an answer as it is asked for; with an error the result must be the zero value.
func is[T any](w world, promise, what string, got, want T, e, wantE api.Errno, same func(T, T) bool) {
	w.Helper()
	var none T
	if e != wantE || !same(got, want) || e != api.OK && !same(got, none) {
		w.Fatalf("%s: %s = %v, %d; want %v, %d", promise, what, got, e, want, wantE)
	}
	call, _, _ := strings.Cut(what, "(")
	w.seen[answer{call, e}]++
}

func equal[T comparable](a, b T) bool { return a == b }

func (w world) Table(n int) api.Errno {
	w.Helper()
	var got int
	what := fmt.Sprintf("Table(%d)", n)
	want, wantE := w.table(n)
	e := w.touch(what, func() (e api.Errno) { got, e = space.Table(w.d, n); return e })
	is(w, "P14.2", what, got, want, e, wantE, equal)
	return e
}

func (w world) AddTable(n, index, l2 int) api.Errno {
	w.Helper()
	what := fmt.Sprintf("AddTable(%d, %d, %d)", n, index, l2)
	table, want := w.table(n)
	var becomes []change
	if want == api.OK {
		_, bad := w.d.Entry(l2)
		switch {
		case !slices.Contains(indices(), index):
			want = api.ErrRange
		case bad != api.OK:
			want = api.ErrPage
		case w.ofType(uint32(l2), entry.Second, n) < 0:
			want = api.ErrType
		case w.word(table, index) != 0:
			want = api.ErrSlot
		default:
			becomes = append(becomes, change{table, index, uint32(l2)*256 + 1})
		}
	}
	e := w.touch(what, func() api.Errno { return space.AddTable(w.d, n, index, l2) }, becomes...)
	is(w, "P14.3", what, 0, 0, e, want, equal)
	return e
}

// indices: those of a first-level table.
func indices() []int {
	all := make([]int, 256)
	for i := range all {
		all[i] = i
	}
	return all
}

func (w world) Slot(n int, va uint32) api.Errno {
	w.Helper()
	what := fmt.Sprintf("Slot(%d, %#x)", n, va)
	page, off, want := w.place(n, va)
	if want == api.OK && w.word(page, off) != 0 {
		want = api.ErrSlot
	}
	e := w.touch(what, func() api.Errno { return space.Slot(w.d, n, va) })
	is(w, "P14.4", what, 0, 0, e, want, equal)
	return e
}

func (w world) Put(n int, va uint32, m walk.Map) api.Errno {
	w.Helper()
	what := fmt.Sprintf("Put(%d, %#x, %+v)", n, va, m)
	page, off, want := w.place(n, va)
	if want == api.OK && w.word(page, off) != 0 {
		want = api.ErrSlot
	}
	var becomes []change
	if want == api.OK {
		v, bad := w.laid(m)
		if want = bad; bad == api.OK {
			becomes = append(becomes, change{page, off, v})
		}
	}
	e := w.touch(what, func() api.Errno { return space.Put(w.d, n, va, m) }, becomes...)
	is(w, "P14.5", what, 0, 0, e, want, equal)
	return e
}

func (w world) Cut(n int, va uint32) api.Errno {
	w.Helper()
	what := fmt.Sprintf("Cut(%d, %#x)", n, va)
	page, off, want := w.place(n, va)
	var becomes []change
	switch {
	case want != api.OK:
	case w.word(page, off) == 0:
		want = api.ErrNone
	default:
		becomes = append(becomes, change{page: page, off: off})
	}
	e := w.touch(what, func() api.Errno { return space.Cut(w.d, n, va) }, becomes...)
	is(w, "P14.6", what, 0, 0, e, want, equal)
	return e
}

func (w world) At(n int, va uint32) (got walk.Map, e api.Errno) {
	w.Helper()
	what := fmt.Sprintf("At(%d, %#x)", n, va)
	var want walk.Map
	page, off, wantE := w.place(n, va)
	if wantE == api.OK {
		want, wantE = w.told(w.word(page, off))
	}
	e = w.touch(what, func() (e api.Errno) { got, e = space.At(w.d, n, va); return e })
	is(w, "P14.7", what, got, want, e, wantE, equal)
	return got, e
}

func (w world) List(n int) (got []walk.At, e api.Errno) {
	w.Helper()
	what := fmt.Sprintf("List(%d)", n)
	want, wantE := w.list(n)
	e = w.touch(what, func() (e api.Errno) { got, e = space.List(w.d, n); return e })
	is(w, "P14.8", what, got, want, e, wantE, slices.Equal)
	return got, e
}
