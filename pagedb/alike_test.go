package pagedb_test

import (
	"slices"
	"testing"

	"warden/api"
	"warden/entry"
	"warden/mem"
	"warden/pagedb"
)

// alike: holds all that a database tells, and its memory and meter, against the plain one.
func alike(t *testing.T, what string, d *pagedb.DB, p *plain) {
	t.Helper()
	if d.Memory().Meter() != p.memory.Meter() {
		t.Fatalf("P12.11: %s: %d words touched; want %d", what, d.Memory().Meter(), p.memory.Meter())
	}
	if !d.Memory().Same(p.memory) {
		t.Fatalf("P12.8: %s: the memory is another one", what)
	}
	if d.Pages() != len(p.entries) || d.Births() != p.births || d.Free() != p.free() {
		t.Fatalf("P12.2: %s: %d pages, %d births, %d free; want %d, %d, %d", what, d.Pages(), d.Births(), d.Free(), len(p.entries), p.births, p.free())
	}
	for page, want := range p.entries {
		if e, bad := d.Entry(page); e != want || bad != api.OK {
			t.Fatalf("P12.2: %s: Entry(%d) = %+v, %d; want %+v", what, page, e, bad, want)
		}
		if got, want := d.Owned(page), p.owned(page); !slices.Equal(got, want) {
			t.Fatalf("P12.2: %s: Owned(%d) = %d; want %d", what, page, got, want)
		}
	}
	if got, want := d.Words(), p.words(); !slices.Equal(got, want) {
		t.Fatalf("P12.9: %s: Words() = %#x; want %#x", what, got, want)
	}
	if d.Memory().Meter() != p.memory.Meter() {
		t.Fatalf("P12.11: %s: a look touches words", what)
	}
}

// whole: what P12.8 says of every database that New gave.
func whole(t *testing.T, what string, d *pagedb.DB) {
	t.Helper()
	all := d.Free()
	for page := range d.Pages() {
		e, _ := d.Entry(page)
		if e.Type == entry.Free {
			continue
		}
		if owner, bad := d.Entry(e.Owner); bad != api.OK || owner.Type != entry.Space {
			t.Fatalf("P12.8: %s: page %d is of %d, a %+v", what, page, e.Owner, owner)
		}
		if e.Type == entry.Space {
			all += 1 + len(d.Owned(page))
			if e.Refs != len(d.Owned(page)) {
				t.Fatalf("P12.8: %s: the space %d counts %d and owns %d", what, page, e.Refs, d.Owned(page))
			}
		}
	}
	if all != d.Pages() {
		t.Fatalf("P12.8: %s: %d pages of %d", what, all, d.Pages())
	}
}

// blank: are all words of a page 0? Without the meter.
func blank(m *mem.Memory, page int) bool {
	for off := range 1024 {
		if m.Peek(secure(page), off) != 0 {
			return false
		}
	}
	return true
}

// fill: no word of the page is 0, and none is as its neighbour.
func fill(m *mem.Memory, f api.Frame) {
	words := make([]uint32, 1024)
	for off := range words {
		words[off] = 0x80000001 + uint32(off)
	}
	m.Lay(f, words)
}

// fillBoth: a page of either memory.
func fillBoth(d *pagedb.DB, p *plain, f api.Frame) {
	fill(d.Memory(), f)
	fill(p.memory, f)
}

// fillAll: every page of either memory, the insecure ones too.
func fillAll(d *pagedb.DB, p *plain) {
	for page := range d.Pages() {
		fillBoth(d, p, secure(page))
	}
	for page := range d.Memory().Insecure() {
		fillBoth(d, p, api.Frame{Page: page})
	}
}

func errno(t *testing.T, what string, got, want api.Errno) {
	t.Helper()
	if got != want {
		t.Fatalf("%s = %d; want %d", what, got, want)
	}
}

func entryIs(t *testing.T, d *pagedb.DB, page int, want entry.Entry) {
	t.Helper()
	if e, bad := d.Entry(page); e != want || bad != api.OK {
		t.Errorf("P12.2: Entry(%d) = %+v, %d; want %+v", page, e, bad, want)
	}
}

// refused: no database, and ErrEntry.
func refused(t *testing.T, what string, m *mem.Memory, words []uint32) {
	t.Helper()
	if d, e := pagedb.Load(m, words); d != nil || e != api.ErrEntry {
		t.Errorf("P12.9: Load of %s: %v, %d", what, d, e)
	}
}
