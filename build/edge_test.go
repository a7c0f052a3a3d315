package build_test

import (
	"testing"

	"warden/api"
	"warden/entry"
	"warden/walk"
)

// The least machine has room for no space; the next one for one that has nothing.
func TestLeastMachines(t *testing.T) {
	w := booted(t, 1, 1)
	w.wants(api.CodeArg, of("Space", 0, 0))
	w.wants(api.CodePage, of("Space", 0, 1))
	w.wants(api.CodePage, of("Space", 1, 0))
	w.wants(api.CodeSpace, of("Share", 0, 1, 0))
	w = booted(t, 2, 1)
	w.wants(api.CodeOK, of("Space", 1, 0))
	w.wants(api.CodeUsed, of("Thread", 1, 0, 0))
	w.wants(api.CodeTable, of("Share", 1, 1, 0))
}

// One space may own all other pages of the greatest machine.
func TestGreatestMachine(t *testing.T) {
	w := booted(t, 64, 64)
	w.fill(63, 1)
	w.wants(api.CodeOK, of("Space", 63, 62))
	w.wants(api.CodeOK, of("Table", 63, 0, 255))
	for page := uint32(1); page < 62; page++ {
		w.wants(api.CodeOK, of("Data", 63, page, 0x3fc00001+page<<12+page%4*2, 63))
	}
	w.entryIs(63, entry.Entry{Type: entry.Space, Owner: 63, Refs: 63, State: entry.Init})
	w.wants(api.CodeUsed, of("Thread", 63, 61, 0))
	w.wants(api.CodeInsecure, of("Share", 63, 0x3ffff003, 64))
	w.wants(api.CodeOK, of("Share", 63, 0x3ffff003, 63))
	w.wants(api.CodeOK, of("Share", 63, 0x3fc00001, 0))
}

// An entry address may be any word: nobody looks at it here.
func TestEntryAddresses(t *testing.T) {
	w := booted(t, 12, 1)
	w.wants(api.CodeOK, of("Space", 0, 1))
	for i, begins := range []uint32{0, 1, 0x1003, 0x3fffffff, 0x40000000, 0x80000000, 0xffffffff} {
		w.wants(api.CodeOK, of("Thread", 0, uint32(2+i), begins))
		if got := w.d.Memory().Peek(secure(2+i), entry.ThreadEntry); got != begins {
			t.Errorf("P17.3: the thread begins at %#x; want %#x", got, begins)
		}
		w.entryIs(2+i, entry.Entry{Type: entry.Thread})
	}
}

// A table may come at every index, and once alone.
func TestTableIndices(t *testing.T) {
	for index := range uint32(256) {
		w := booted(t, 4, 1)
		w.wants(api.CodeOK, of("Space", 0, 1))
		w.wants(api.CodeOK, of("Table", 0, 3, index))
		w.wants(api.CodeAddress, of("Table", 0, 2, index))
		if got := w.d.Memory().Peek(secure(1), int(index)); got != 0x301 {
			t.Errorf("P17.4: the word %d of the table is %#x", index, got)
		}
	}
}

// What a mapping says is what may be done there; data that nobody may write is mapped so too.
func TestPermissions(t *testing.T) {
	w := booted(t, 12, 4)
	w.wants(api.CodeOK, of("Space", 0, 1))
	w.wants(api.CodeOK, of("Table", 0, 2, 0))
	for bits := range uint32(4) {
		va, page := bits<<12, 3+bits
		w.wants(api.CodeOK, of("Data", 0, page, va+1+2*bits, 0))
		w.mapped(va, walk.Map{Frame: secure(int(page)), Write: bits%2 == 1, Exec: bits >= 2})
	}
	for bits := range uint32(2) {
		va := 0x10000 + bits<<12
		w.wants(api.CodeMapping, of("Share", 0, va+5+2*bits, 3))
		w.wants(api.CodeOK, of("Share", 0, va+1+2*bits, 3))
		w.mapped(va, walk.Map{Frame: insecure(3), Write: bits == 1})
	}
}

// One insecure page may be the contents of many pages, be shared at many addresses, and by many spaces.
func TestOnePageManyTimes(t *testing.T) {
	w := booted(t, 12, 1)
	w.fill(0, 0xdeadbeef)
	for _, c := range []call{
		of("Space", 0, 1), of("Table", 0, 2, 0), of("Space", 3, 4), of("Table", 3, 5, 0),
		of("Data", 0, 6, 0x1001, 0), of("Data", 0, 7, 0x2003, 0), of("Data", 3, 8, 0x1001, 0),
		of("Share", 0, 0x3003, 0), of("Share", 0, 0x4001, 0), of("Share", 3, 0x3003, 0),
	} {
		w.wants(api.CodeOK, c)
	}
}

// Pages that come back are zero, and can be taken again by another space, as anything.
func TestPagesAgain(t *testing.T) {
	w := booted(t, 6, 1)
	w.fill(0, 5)
	for range 3 {
		for turn := range uint32(6) {
			at := func(i uint32) uint32 { return (turn + i) % 6 }
			for _, c := range []call{
				of("Space", at(0), at(1)), of("Table", at(0), at(2), turn), of("Data", at(0), at(3), turn<<22+0x5007, 0), of("Thread", at(0), at(4), 9), of("Share", at(0), turn<<22+3, 0),
			} {
				w.wants(api.CodeOK, c)
			}
			w.drop(int(at(0)))
			w.alike("behind a drop")
		}
	}
}
