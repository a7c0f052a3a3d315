package pagedb_test

import (
	"fmt"
	"math/rand"
	"testing"

	"warden/api"
	"warden/entry"
	"warden/pagedb"
)

// anyPage: a page mostly, now and then a number that is none.
func anyPage(r *rand.Rand, pages int) int {
	if r.Intn(16) == 0 {
		return wild[r.Intn(len(wild))]
	}
	return r.Intn(pages+2) - 1
}

// step: one call, or a write past the calls, at a database and at the plain one.
func step(t *testing.T, r *rand.Rand, d *pagedb.DB, p *plain) string {
	t.Helper()
	n := len(p.entries)
	a, b := anyPage(r, n), anyPage(r, n)
	kind, state, on := entry.Type(r.Intn(9)-1), entry.State(r.Intn(6)-1), r.Intn(2) == 0
	var what string
	var got, want api.Errno
	switch r.Intn(10) {
	case 0:
		what, got, want = fmt.Sprintf("TakeSpace(%d, %d)", a, b), d.TakeSpace(a, b), p.takeSpace(a, b)
	case 1, 2, 3:
		what, got, want = fmt.Sprintf("Take(%d, %d, %d)", a, kind, b), d.Take(a, kind, b), p.take(a, kind, b)
	case 4:
		what, got, want = fmt.Sprintf("Turn(%d, %d)", a, kind), d.Turn(a, kind), p.turn(a, kind)
	case 5, 6:
		what, got, want = fmt.Sprintf("Give(%d)", a), d.Give(a), p.give(a)
	case 7:
		what, got, want = fmt.Sprintf("SetState(%d, %d)", a, state), d.SetState(a, state), p.setState(a, state)
	case 8:
		what, got, want = fmt.Sprintf("SetEntered(%d, %t)", a, on), d.SetEntered(a, on), p.setEntered(a, on)
	case 9:
		f, off, w := api.Frame{Secure: on, Page: a}, r.Intn(1024), r.Uint32()
		what, got, want = "a write", d.Memory().Write(f, off, w), p.memory.Write(f, off, w)
	}
	errno(t, what, got, want)
	return what
}

// TestScripts: many calls, one behind the other, from a new database on; now and then a clone goes on beside it, or the words are loaded again.
func TestScripts(t *testing.T) {
	for seed := range int64(60) {
		r := rand.New(rand.NewSource(1200 + seed))
		pages := 1 + r.Intn(9)
		d, p := both(t, pages)
		all, plains := []*pagedb.DB{d}, []*plain{p}
		for range 400 {
			i := r.Intn(len(all))
			if len(all) < 4 && r.Intn(50) == 0 {
				all, plains = append(all, all[i].Clone()), append(plains, plains[i].clone())
			}
			if r.Intn(50) == 0 {
				l, e := pagedb.Load(all[i].Memory(), all[i].Words())
				errno(t, "P12.9: Load", e, api.OK)
				all[i] = l
			}
			what := step(t, r, all[i], plains[i])
			alike(t, what, all[i], plains[i])
			whole(t, what, all[i])
		}
		for i := range all {
			alike(t, "P12.10: at the end", all[i], plains[i])
		}
	}
}

// loose: words of entries that need not go together, and the plain database of the same.
func loose(t *testing.T, r *rand.Rand, pages int) (*pagedb.DB, *plain) {
	t.Helper()
	p := &plain{memory: memory(t, pages), births: r.Intn(65)}
	for range pages {
		e := entry.Entry{Type: entry.Type(r.Intn(7))}
		if e.Type != entry.Free {
			e.Owner = r.Intn(pages)
		}
		switch e.Type {
		case entry.Space:
			e.Refs, e.State = []int{0, 1, 2, 62, 63}[r.Intn(5)], entry.State(1+r.Intn(3))
		case entry.Thread:
			e.Entered = r.Intn(2) == 0
		}
		p.entries = append(p.entries, e)
	}
	d, e := pagedb.Load(memory(t, pages), p.words())
	errno(t, "P12.9: Load", e, api.OK)
	return d, p
}

func TestLooseScripts(t *testing.T) {
	for seed := range int64(150) {
		r := rand.New(rand.NewSource(12900 + seed))
		d, p := loose(t, r, 1+r.Intn(8))
		fillAll(d, p)
		alike(t, "loaded", d, p)
		for range 100 {
			alike(t, step(t, r, d, p), d, p)
		}
	}
}

// TestFreePagesAreZero: where nobody writes past the calls into a free page, free pages are 0 behind every call.
func TestFreePagesAreZero(t *testing.T) {
	r := rand.New(rand.NewSource(128))
	d := pagedb.New(memory(t, 6))
	for range 3000 {
		a, b, kind := r.Intn(6), r.Intn(6), entry.Type(r.Intn(7))
		switch r.Intn(6) {
		case 0:
			d.TakeSpace(a, b)
		case 1:
			d.Take(a, kind, b)
		case 2:
			d.Turn(a, kind)
		case 3, 4:
			d.Give(a)
		case 5:
			scribble(d, a)
		}
		checkFree(t, d)
	}
}

// scribble: into a page that isn't free, as its owner may.
func scribble(d *pagedb.DB, page int) {
	if e, _ := d.Entry(page); e.Type != entry.Free {
		fill(d.Memory(), secure(page))
	}
}

func checkFree(t *testing.T, d *pagedb.DB) {
	t.Helper()
	for page := range d.Pages() {
		if e, _ := d.Entry(page); e.Type == entry.Free && !blank(d.Memory(), page) {
			t.Fatalf("P12.8: page %d is free and isn't wiped", page)
		}
	}
}
