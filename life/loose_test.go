package life_test

import (
	"math/rand"
	"testing"

	"warden/api"
	"warden/entry"
	"warden/life"
	"warden/mem"
	"warden/pagedb"
)

// anyEntry: of every type alike, owned by any page.
func anyEntry(r *rand.Rand, pages int) entry.Entry {
	owner := r.Intn(pages)
	switch t := entry.Type(r.Intn(int(entry.Types))); t {
	case entry.Free:
		return entry.Entry{}
	case entry.Space:
		return entry.Entry{Type: t, Owner: owner, Refs: []int{0, 1, 2, 63}[r.Intn(4)], State: entry.Init + entry.State(r.Intn(3))}
	case entry.Thread:
		return entry.Entry{Type: t, Owner: owner, Entered: r.Intn(2) == 0}
	default:
		return entry.Entry{Type: t, Owner: owner}
	}
}

// loose: entries that don't go together, over pages of any words, some of which hold a digest.
func loose(t *testing.T, r *rand.Rand) *pagedb.DB {
	m, _ := mem.New(1+r.Intn(8), 1)
	words := []uint32{uint32(r.Intn(65))}
	for page := range m.Secure() {
		w, e := entry.Encode(anyEntry(r, m.Secure()))
		if e != api.OK {
			t.Fatalf("no entry: %d", e)
		}
		words = append(words, w[0], w[1])
		for i, v := range saved(firstState(), 3, r.Uint32(), 1, 2) {
			m.Write(secure(page), entry.SpaceDigest+i, v)
		}
		if r.Intn(2) == 0 {
			m.Write(secure(page), r.Intn(1024), r.Uint32())
			m.Write(secure(page), r.Intn(40), r.Uint32())
		}
	}
	d, e := pagedb.Load(m, words)
	if e != api.OK {
		t.Fatalf("pagedb.Load: %d", e)
	}
	return d
}

// Over databases that were loaded from words that no calls leave each call ends, and doesn't panic.
func TestLooseDatabases(t *testing.T) {
	seen := map[answer]int{}
	for seed := range int64(4000) {
		r := rand.New(rand.NewSource(188000 + seed))
		d := loose(t, r)
		arg := func() uint32 { return uint32(r.Intn(d.Pages() + 1)) }
		for range 30 {
			for _, c := range []call{of("Spare", arg(), arg()), of("Final", arg()), of("Remove", arg()), of("Stop", arg())}[r.Intn(4):] {
				seen[answer{c.name, c.do(d)}]++
			}
			life.Plan(d, r.Intn(d.Pages()+2)-1)
		}
	}
	allSeen(t, seen)
}

// What was loaded from words that calls left is as good as what they left.
func TestLoadedDatabases(t *testing.T) {
	w := states(t)
	d, e := pagedb.Load(w.d.Memory(), w.d.Words())
	w.ok("Load", e)
	w.d = d
	w.wants(api.CodeOK, of("Spare", 8, 24))
	w.wants(api.CodeNotStopped, of("Remove", 9))
	w.wants(api.CodeOK, of("Remove", 24))
	w.wants(api.CodeOK, of("Final", 0))
	for _, space := range []int{16, 0, 8} {
		w.reclaim(space, nil)
	}
}
