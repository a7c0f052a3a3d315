package build_test

import (
	"math/rand"
	"testing"

	"warden/api"
	"warden/entry"
	"warden/mem"
	"warden/pagedb"
)

// anyEntry: mostly a space that is being built, or a free page.
func anyEntry(r *rand.Rand, pages int) entry.Entry {
	owner := r.Intn(pages)
	switch r.Intn(6) {
	case 0, 1:
		return entry.Entry{Type: entry.Space, Owner: owner, Refs: r.Intn(2) * 63, State: []entry.State{entry.Init, entry.Init, entry.Final, entry.Stopped}[r.Intn(4)]}
	case 2, 3:
		return entry.Entry{}
	}
	return entry.Entry{Type: entry.Thread + entry.Type(r.Intn(5)), Owner: owner}
}

// anyState: entries that don't go together over pages of any words, some of which name pages.
func anyState(t *testing.T, r *rand.Rand) *pagedb.DB {
	m, _ := mem.New(1+r.Intn(8), 1+r.Intn(3))
	words := []uint32{uint32(r.Intn(65))}
	for page := range m.Secure() {
		w, e := entry.Encode(anyEntry(r, m.Secure()))
		if e != api.OK {
			t.Fatalf("no entry: %d", e)
		}
		words = append(words, w[0], w[1])
		for off := range 40 {
			m.Write(secure(page), off, []uint32{uint32(r.Intn(9)), uint32(r.Intn(9))<<8 + 1, 0, r.Uint32()}[r.Intn(4)])
		}
	}
	d, e := pagedb.Load(m, words)
	if e != api.OK {
		t.Fatalf("pagedb.Load: %d", e)
	}
	return d
}

// Over states that aren't valid each call ends, and doesn't panic.
func TestLooseStates(t *testing.T) {
	seen := map[api.Code]bool{}
	for seed := range int64(3000) {
		r := rand.New(rand.NewSource(170000 + seed))
		d := anyState(t, r)
		for range 20 {
			arg := func() uint32 { return uint32(r.Intn(d.Pages() + 1)) }
			mapping := uint32(r.Intn(40))<<12 + uint32(r.Intn(2))<<22 + 1 + uint32(r.Intn(4))*2
			for _, c := range []call{of("Space", arg(), arg()), of("Thread", arg(), arg(), 0), of("Table", arg(), arg(), arg()), of("Data", arg(), arg(), mapping, 0), of("Share", arg(), mapping, 0)} {
				seen[c.do(d)] = true
			}
		}
	}
	for _, code := range []api.Code{api.CodeOK, api.CodePage, api.CodeUsed, api.CodeSpace, api.CodeFinal, api.CodeMapping, api.CodeAddress, api.CodeTable, api.CodeStreams} {
		if !seen[code] {
			t.Errorf("P17.9: no call answers %d in this test", code)
		}
	}
}

// Where a space's page holds no digest, what can't be measured isn't taken.
func TestNoDigest(t *testing.T) {
	w := booted(t, 8, 1)
	for _, c := range []call{of("Space", 0, 1), of("Table", 0, 2, 0)} {
		w.wants(api.CodeOK, c)
	}
	w.d.Memory().Write(secure(0), entry.SpaceUsed-1, 1)
	was := w.d.Clone()
	for _, c := range []call{of("Thread", 0, 3, 0), of("Table", 0, 3, 1), of("Data", 0, 3, 1, 0), of("Share", 0, 1, 0)} {
		if c.do(w.d) == api.CodeOK || !w.d.Memory().Same(was.Memory()) || w.d.Free() != was.Free() {
			t.Errorf("%v over a space without a digest is taken, or has changed something", c)
		}
	}
}
