package svc_test

import (
	"math/rand"
	"testing"

	"warden/api"
	"warden/entry"
	"warden/pagedb"
	"warden/valid"
)

// anyEntry: of every type, owned mostly by one of the two spaces.
func anyEntry(r *rand.Rand, pages int) entry.Entry {
	owner := []int{0, 0, 8, r.Intn(pages)}[r.Intn(4)]
	switch t := entry.Type(r.Intn(int(entry.Types))); t {
	case entry.Free:
		return entry.Entry{}
	case entry.Space:
		return entry.Entry{Type: t, Owner: owner, Refs: []int{0, 1, 2, 63}[r.Intn(4)], State: entry.Init + entry.State(r.Intn(3))}
	case entry.Thread:
		return entry.Entry{Type: t, Owner: owner, Entered: r.Intn(2) == 0}
	default:
		return entry.Entry{Type: t, Owner: owner}
	}
}

// anyWord: mostly one that names a page, as a number or as a descriptor.
func anyWord(r *rand.Rand, pages int) uint32 {
	page := uint32(r.Intn(pages + 2))
	return []uint32{0, page, 256*page + 1, 256*page + 3 + uint32(r.Intn(4))*4, 256*page + uint32(r.Intn(32)), r.Uint32()}[r.Intn(6)]
}

// harmed: the machine of two, with words written past all calls, and entries that don't go together.
func harmed(t *testing.T, base *pagedb.DB, r *rand.Rand) *pagedb.DB {
	m := base.Clone().Memory()
	words := base.Words()
	for page := range m.Secure() {
		if r.Intn(8) == 0 {
			w, e := entry.Encode(anyEntry(r, m.Secure()))
			if e != api.OK {
				t.Fatalf("no entry: %d", e)
			}
			copy(words[1+2*page:], w[:])
		}
		for _, off := range []int{0, 1, 2, 3, 4, 5, 6, 7, 255, r.Intn(1024)} {
			if r.Intn(8) == 0 {
				m.Write(secure(page), off, anyWord(r, m.Secure()))
			}
		}
	}
	d, e := pagedb.Load(m, words)
	if e != api.OK {
		t.Fatalf("pagedb.Load: %d", e)
	}
	return d
}

// In every state, be it valid or not, each call does what is promised.
func TestLooseStates(t *testing.T) {
	base, seen, broken := two(t), map[answered]int{}, 0
	for seed := range int64(400) {
		r := rand.New(rand.NewSource(190000 + seed))
		s := script{over(t, harmed(t, base.d, r)), r}
		s.seen, s.streams = seen, chance(r)
		if clause, _ := valid.Broken(s.d); clause != 0 {
			broken++
		}
		for range 25 {
			s.call()
		}
	}
	w := world{T: t, seen: seen}
	w.allCallsSeen()
	for _, n := range []uint32{api.SvcVerify, api.SvcMap, api.SvcUnmap, api.SvcTable} {
		if got := seen[answered{n, 0}]; got < 20 {
			t.Errorf("call %d answers CodeOK only %d times", n, got)
		}
	}
	if broken < 300 {
		t.Errorf("only %d states aren't valid", broken)
	}
}
