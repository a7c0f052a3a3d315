package pagedb_test

import (
	"slices"
	"testing"

	"warden/api"
	"warden/entry"
	"warden/pagedb"
)

func TestNewOfNothing(t *testing.T) {
	if d := pagedb.New(nil); d != nil {
		t.Errorf("P12.1: New(nil) = %v", d)
	}
}

func TestNewWipes(t *testing.T) {
	for _, pages := range []int{1, 2, 5, 63, 64} {
		m := memory(t, pages)
		for page := range pages {
			fill(m, secure(page))
		}
		fill(m, api.Frame{Page: 0})
		fill(m, api.Frame{Page: 1})
		kept, touched := m.Clone(), m.Meter()
		d := pagedb.New(m)
		if d.Memory() != m || d.Pages() != pages {
			t.Fatalf("P12.1: over %d pages: another memory, or %d pages", pages, d.Pages())
		}
		if m.Meter()-touched != int64(1024*pages) {
			t.Fatalf("P12.1: New over %d pages touches %d words", pages, m.Meter()-touched)
		}
		for page := range pages {
			kept.Zero(secure(page))
		}
		if !m.Same(kept) {
			t.Fatalf("P12.1: over %d pages: the secure pages are wiped, and no others", pages)
		}
		if d.Free() != pages || d.Births() != 0 {
			t.Fatalf("P12.1: over %d pages: %d free, %d births", pages, d.Free(), d.Births())
		}
		for page := range pages {
			if e, bad := d.Entry(page); e != (entry.Entry{}) || bad != api.OK || len(d.Owned(page)) != 0 {
				t.Fatalf("P12.1: over %d pages: page %d is %+v, %d", pages, page, e, bad)
			}
		}
	}
}

func TestExampleOne(t *testing.T) {
	d := pagedb.New(memory(t, 4))
	if d.Free() != 4 || d.Births() != 0 || len(d.Owned(0)) != 0 {
		t.Errorf("P12.2: %d free, %d births, owned %d", d.Free(), d.Births(), d.Owned(0))
	}
	for _, page := range []int{4, -1} {
		if e, bad := d.Entry(page); e != (entry.Entry{}) || bad != api.ErrPage {
			t.Errorf("P12.2: Entry(%d) = %+v, %d", page, e, bad)
		}
	}
}

func TestNoSuchPage(t *testing.T) {
	d, p := both(t, 5)
	d.TakeSpace(0, 1)
	p.takeSpace(0, 1)
	for _, page := range around(5) {
		e, bad := d.Entry(page)
		if p.there(page) != (bad == api.OK) || bad != api.OK && (bad != api.ErrPage || e != (entry.Entry{})) {
			t.Errorf("P12.2: Entry(%d) = %+v, %d", page, e, bad)
		}
		if got := d.Owned(page); !slices.Equal(got, p.owned(page)) {
			t.Errorf("P12.2: Owned(%d) = %d", page, got)
		}
	}
	alike(t, "looks", d, p)
}

// TestOwned: a free page's entry has the owner 0, and page 0 doesn't own it; a table or a thread owns nothing.
func TestOwned(t *testing.T) {
	d := pagedb.New(memory(t, 8))
	errno(t, "TakeSpace(0, 6)", d.TakeSpace(0, 6), api.OK)
	errno(t, "TakeSpace(7, 1)", d.TakeSpace(7, 1), api.OK)
	errno(t, "Take(5, Data, 0)", d.Take(5, entry.Data, 0), api.OK)
	errno(t, "Take(2, Thread, 0)", d.Take(2, entry.Thread, 0), api.OK)
	errno(t, "Take(3, Spare, 7)", d.Take(3, entry.Spare, 7), api.OK)
	for page, want := range [][]int{{2, 5, 6}, nil, nil, nil, nil, nil, nil, {1, 3}} {
		if got := d.Owned(page); !slices.Equal(got, want) {
			t.Errorf("P12.2: Owned(%d) = %d; want %d", page, got, want)
		}
	}
	if d.Free() != 1 || d.Births() != 2 {
		t.Errorf("P12.2: %d free, %d births", d.Free(), d.Births())
	}
}

// TestOwnedLoose: of entries that don't go together a space may be of another one, and is told as any page is.
func TestOwnedLoose(t *testing.T) {
	words := []uint32{
		0,
		0x00000011, 5, // 0: a space
		0x00000021, 0, // 1: a space of 0
		0x00010005, 0, // 2: data of 1
		0x00030003, 0, // 3: a first table of itself
		0x00030004, 0, // 4: a second table of 3
		0, 0, // 5: free
		0x00000031, 9, // 6: a stopped space of 0
	}
	d, e := pagedb.Load(memory(t, 7), words)
	errno(t, "Load", e, api.OK)
	for page, want := range [][]int{{1, 6}, {2}, nil, nil, nil, nil, nil} {
		if got := d.Owned(page); !slices.Equal(got, want) {
			t.Errorf("P12.2: Owned(%d) = %d; want %d", page, got, want)
		}
	}
	if d.Free() != 1 {
		t.Errorf("P12.2: %d free", d.Free())
	}
}

func TestNewMemoryEachTime(t *testing.T) {
	d := pagedb.New(memory(t, 6))
	d.TakeSpace(4, 5)
	d.Take(0, entry.Data, 4)
	d.Take(1, entry.Data, 4)
	want := d.Words()
	owned, again := d.Owned(4), d.Owned(4)
	words, twice := d.Words(), d.Words()
	spoil(owned)
	spoil(words)
	if !slices.Equal(again, []int{0, 1, 5}) || !slices.Equal(twice, want) {
		t.Errorf("P12.11: two answers share memory: %d, %#x", again, twice)
	}
	if !slices.Equal(d.Owned(4), []int{0, 1, 5}) || !slices.Equal(d.Words(), want) {
		t.Errorf("P12.11: an answer's memory is kept: %d, %#x", d.Owned(4), d.Words())
	}
}

// spoil: other numbers in a list and in the room behind it.
func spoil[T int | uint32](list []T) {
	for i := range list[:cap(list)] {
		list[:cap(list)][i] = 7
	}
}

func TestClone(t *testing.T) {
	d, p := both(t, 6)
	for _, page := range []int{0, 3} {
		d.TakeSpace(page, page+1)
		p.takeSpace(page, page+1)
	}
	c, q := d.Clone(), p.clone()
	if c.Memory() == d.Memory() {
		t.Fatal("P12.10: a clone stands over the same memory")
	}
	alike(t, "the clone", c, q)
	alike(t, "the cloned", d, p)

	c.Take(2, entry.Thread, 3)
	q.take(2, entry.Thread, 3)
	c.SetEntered(2, true)
	q.setEntered(2, true)
	c.SetState(0, entry.Stopped)
	q.setState(0, entry.Stopped)
	c.Give(1)
	q.give(1)
	alike(t, "the clone goes its way", c, q)
	alike(t, "while the cloned stays", d, p)

	d.Take(5, entry.Data, 0)
	p.take(5, entry.Data, 0)
	fillBoth(d, p, secure(5))
	fillBoth(d, p, api.Frame{Page: 1})
	d.Take(2, entry.Spare, 0)
	p.take(2, entry.Spare, 0)
	alike(t, "the cloned goes its way", d, p)
	alike(t, "while the clone stays", c, q)

	errno(t, "TakeSpace(0, 1) of the clone", c.TakeSpace(0, 1), q.takeSpace(0, 1))
	errno(t, "Give(0) of the clone", c.Give(0), q.give(0))
	errno(t, "TakeSpace(0, 1) of the clone", c.TakeSpace(0, 1), q.takeSpace(0, 1))
	alike(t, "births go apart", c, q)
	if c.Births() != 3 || d.Births() != 2 {
		t.Errorf("P12.10: births %d and %d", c.Births(), d.Births())
	}
}
