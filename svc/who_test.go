package svc_test

import (
	"math"
	"testing"

	"warden/api"
	"warden/entry"
	"warden/mem"
	"warden/pagedb"
)

// runs: whether the page is a thread that may call, asked of every call.
func (w world) runs(page int, want bool) {
	w.Helper()
	for _, n := range []uint32{0, 1, 2, 3, 4, 5, 6, 7, 8, 0xffffffff} {
		r := w.do(page, n, file(0x1000, 0x5003))
		if want != (r.e == api.OK) || !want && r != (result{e: api.ErrType}) {
			w.Fatalf("P19.3: call %d of page %d: %+v", n, page, r)
		}
	}
}

// enclaves: a valid machine with enclaves, born in that order, each in eight pages from a number on: the space, its table, two second-level tables (at the indices 0 and 255), two data pages (0x1000 with write, 0x2000 with exec), a spare page, a thread; all share the insecure page 1 at 0x3000.
func enclaves(t *testing.T, pages, shared int, spaces ...int) world {
	t.Helper()
	w := booted(t, pages, shared)
	for _, s := range spaces {
		w.ok("TakeSpace", w.d.TakeSpace(s, s+1))
		for i, kind := range []entry.Type{entry.Second, entry.Second, entry.Data, entry.Data, entry.Spare, entry.Thread} {
			w.take(s+2+i, kind, s)
		}
		at := uint32(s) * 256
		w.lay(s+1, 0, at+0x201)
		w.lay(s+1, 255, at+0x301)
		w.lay(s+2, 1, at+0x407, at+0x50b, 0x105)
		w.lay(s, entry.SpaceMeasure, 10+at, 11, 12, 13, 14, 15, 16, 17)
		w.fill(secure(s+4), at)
		w.fill(secure(s+5), at+1)
		w.ok("SetState", w.d.SetState(s, entry.Final))
	}
	w.valid()
	return w
}

// two: enclaves from the pages 0 and 8 on, whose threads are 7 and 15; the pages 16 and 17 are free.
func two(t *testing.T) world {
	t.Helper()
	w := enclaves(t, 18, 3, 0, 8)
	for page := range 3 {
		w.fill(insecure(page), uint32(page)+77)
	}
	w.streams = [][]uint32{{1, 2, 3}, {4, 5, 6}}
	return w
}

// Of all pages, and of numbers that are none's, the threads alone call.
func TestWhoCalls(t *testing.T) {
	w := two(t)
	for page := range 18 {
		w.runs(page, page == 7 || page == 15)
	}
	for _, page := range []int{math.MinInt, -1 << 32, math.MinInt32, -18, -11, -1, 18, 19, 63, 64, 7 + 256, 1<<32 + 7, -1<<32 + 7, math.MaxInt32, math.MaxInt} {
		w.runs(page, false)
	}
	w.ok("SetEntered", w.d.SetEntered(7, true))
	w.runs(7, true)
	w.ok("SetState", w.d.SetState(0, entry.Stopped))
	w.runs(7, false)
	w.runs(15, true)
}

// A space that is being built, or is stopped, has no thread that calls, though all its tables stand.
func TestWhoCallsByState(t *testing.T) {
	for _, state := range []entry.State{entry.Init, entry.Final, entry.Stopped} {
		w := loaded(t, two(t), 0, entry.Entry{Type: entry.Space, Refs: 7, State: state})
		w.runs(7, state == entry.Final)
	}
}

// loaded: the same machine, but for one entry.
func loaded(t *testing.T, w world, page int, e entry.Entry) world {
	t.Helper()
	pair, err := entry.Encode(e)
	w.ok("Encode", err)
	words := w.d.Words()
	copy(words[1+2*page:], pair[:])
	d, err := pagedb.Load(w.d.Memory(), words)
	w.ok("Load", err)
	w.d = d
	return w
}

// Entries that don't go together: an owner that is no space, a table that is none.
func TestWhoCallsOverLooseEntries(t *testing.T) {
	for _, e := range []entry.Entry{{}, {Type: entry.Thread}, {Type: entry.First}, {Type: entry.Second}, {Type: entry.Data}, {Type: entry.Spare}} {
		loaded(t, two(t), 0, e).runs(7, false)
	}
	for _, e := range []entry.Entry{{}, {Type: entry.Second}, {Type: entry.Data}, {Type: entry.First, Owner: 8}, {Type: entry.First, Owner: 16}, {Type: entry.Space, State: entry.Final}} {
		loaded(t, two(t), 1, e).runs(7, false)
	}
	// What the space's own entry says of owner and pages plays no part.
	for _, e := range []entry.Entry{{Type: entry.Space, Owner: 8, State: entry.Final}, {Type: entry.Space, Owner: 17, Refs: 63, State: entry.Final}} {
		loaded(t, two(t), 0, e).runs(7, true)
	}
	loaded(t, two(t), 16, entry.Entry{Type: entry.Thread, Owner: 8}).runs(16, true)
	loaded(t, two(t), 16, entry.Entry{Type: entry.Thread, Owner: 4}).runs(16, false)
}

// The word of the space's page that names the table may be any.
func TestWhoCallsByTableWord(t *testing.T) {
	for _, word := range []uint32{0, 2, 4, 9, 17, 18, 64, 0x101, 0x10001, 0x80000001, 0xffffffff} {
		w := two(t)
		w.lay(0, entry.SpaceFirst, word)
		w.runs(7, false)
	}
	w := loaded(t, two(t), 16, entry.Entry{Type: entry.First})
	w.lay(0, entry.SpaceFirst, 16)
	w.wants(api.CodeTable, 7, api.SvcMap, 6, 0x5003)
	w.wants(api.CodeOK, 7, api.SvcTable, 6, 0)
	w.wordIs(16, 0, 0x601)
	w.runs(7, true)
}

// The least machines have no thread.
func TestWhoCallsOnLeastMachines(t *testing.T) {
	for pages := 1; pages < 4; pages++ {
		m, _ := mem.New(pages, 1)
		w := over(t, pagedb.New(m))
		for page := -1; page <= pages; page++ {
			w.runs(page, false)
		}
	}
}
