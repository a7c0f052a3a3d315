package pagedb_test

import (
	"fmt"
	"slices"
	"testing"

	"warden/api"
	"warden/pagedb"
)

func TestExampleSix(t *testing.T) {
	words := pagedb.New(memory(t, 4)).Words()
	if !slices.Equal(words, make([]uint32, 9)) {
		t.Fatalf("P12.9: Words() = %#x", words)
	}
	if d, e := pagedb.Load(memory(t, 4), words); d == nil || e != api.OK {
		t.Errorf("P12.9: Load of a new one's words: %v, %d", d, e)
	}
	refused(t, "eight words", memory(t, 4), words[:8])
	words[0] = 65
	refused(t, "65 births", memory(t, 4), words)
}

func TestWordsOfEachType(t *testing.T) {
	d, p := laid(t)
	want := []uint32{
		2,
		0, 0, // free
		0x00030102, 0, // a thread that is entered
		0x00030004, 0, // a second table
		0x00030011, 5, // a space in the state Init
		0x00030003, 0, // its first table
		0x00030005, 0, // data
		0x00030006, 0, // spare
		0x00070021, 1, // a final space
		0x00070003, 0,
		0, 0,
	}
	if got := d.Words(); !slices.Equal(got, want) {
		t.Errorf("P12.9: Words() = %#x", got)
	}
	m := d.Memory()
	kept, touched := m.Clone(), m.Meter()
	l, e := pagedb.Load(m, want)
	if l == nil || e != api.OK || l.Memory() != m {
		t.Fatalf("P12.9: Load: %v, %d", l, e)
	}
	if !m.Same(kept) || m.Meter() != touched {
		t.Error("P12.9: Load changes or touches the memory")
	}
	alike(t, "loaded", l, p)
}

func TestLoadLengths(t *testing.T) {
	for _, pages := range []int{1, 2, 4, 63, 64} {
		m := memory(t, pages)
		for length := range 140 {
			d, e := pagedb.Load(m, make([]uint32, length))
			if fits := length == 1+2*pages; fits != (d != nil) || fits != (e == api.OK) || !fits && e != api.ErrEntry {
				t.Errorf("P12.9: Load of %d words over %d pages: %d", length, pages, e)
			}
		}
		refused(t, "no words", m, nil)
		refused(t, "many words", m, make([]uint32, 1<<16))
	}
	refused(t, "words over no memory", nil, make([]uint32, 9))
	refused(t, "nothing over no memory", nil, nil)
	refused(t, "one word over no memory", nil, []uint32{0})
}

func TestLoadBirths(t *testing.T) {
	for births := range uint32(64 + 1) {
		d, e := pagedb.Load(memory(t, 1), []uint32{births, 0, 0})
		if e != api.OK || d.Births() != int(births) || d.Words()[0] != births {
			t.Errorf("P12.9: Load with %d births: %d", births, e)
		}
	}
	for _, births := range []uint32{65, 66, 128, 256, 1 << 16, 1 << 31, 1<<32 - 1} {
		refused(t, fmt.Sprintf("%d births", births), memory(t, 1), []uint32{births, 0, 0})
	}
}

// TestLoadPairs: a pair that is no entry's, at each page; an owner beyond the pages.
func TestLoadPairs(t *testing.T) {
	const pages = 5
	m := memory(t, pages)
	good := []uint32{9, 0x00010005, 0, 0x00010011, 3, 0x00010003, 0, 0, 0, 0x00010102, 0}
	if _, e := pagedb.Load(m, good); e != api.OK {
		t.Fatalf("P12.9: Load: %d", e)
	}
	for page := range pages {
		for _, w := range [][2]uint32{{7, 0}, {8, 0}, {1, 0}, {0x41, 0}, {0x11, 64}, {0x105, 0}, {5, 1}, {0x00010000, 0}, {0x00400005, 0}, {1 << 31, 0}, {0, 1}, {0, 1 << 31}} {
			words := slices.Clone(good)
			copy(words[1+2*page:], w[:])
			refused(t, fmt.Sprintf("%#x at page %d", w, page), m, words)
		}
		for owner := range uint32(64) {
			for _, low := range []uint32{0x11, 0x21, 0x31, 2, 0x102, 3, 4, 5, 6} {
				words := slices.Clone(good)
				words[1+2*page], words[2+2*page] = owner<<16|low, 0
				d, e := pagedb.Load(m, words)
				if owner >= pages {
					refused(t, fmt.Sprintf("owner %d at page %d of %d", owner, page, pages), m, words)
				} else if e != api.OK || !slices.Equal(d.Words(), words) {
					t.Errorf("P12.9: Load of %#x: %d", words, e)
				}
			}
		}
	}
}

// TestLoadKeepsNothing: the words that are handed in are not changed, nor those behind them, and not kept.
func TestLoadKeepsNothing(t *testing.T) {
	room := []uint32{0, 0, 0, 0, 0, 77, 78, 79}
	given := slices.Clone(room)
	d, e := pagedb.Load(memory(t, 2), given[:5])
	errno(t, "Load", e, api.OK)
	errno(t, "TakeSpace(0, 1)", d.TakeSpace(0, 1), api.OK)
	if !slices.Equal(given, room) {
		t.Errorf("P12.11: what was handed in is now %#x", given)
	}
	want := d.Words()
	spoil(given)
	if !slices.Equal(d.Words(), want) {
		t.Errorf("P12.11: what was handed in is kept: %#x", d.Words())
	}
}

// TestLoadBesideNew: two databases over one memory are told apart by their words; each writes into the one memory.
func TestLoadBesideNew(t *testing.T) {
	d := pagedb.New(memory(t, 3))
	l, e := pagedb.Load(d.Memory(), d.Words())
	errno(t, "Load", e, api.OK)
	errno(t, "TakeSpace(0, 2)", l.TakeSpace(0, 2), api.OK)
	if d.Births() != 0 || d.Free() != 3 || l.Free() != 1 {
		t.Errorf("P12.9: %d births, %d free, %d free", d.Births(), d.Free(), l.Free())
	}
	if d.Memory().Peek(secure(0), 0) != 2 {
		t.Error("P12.9: the memory isn't the one that was handed in")
	}
}
