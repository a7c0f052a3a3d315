package life_test

import (
	"fmt"
	"slices"
	"testing"

	"warden/api"
	"warden/entry"
	"warden/life"
	"warden/measure"
	"warden/mem"
	"warden/pagedb"
)

func secure(page int) api.Frame { return api.Frame{Secure: true, Page: page} }

func insecure(page int) api.Frame { return api.Frame{Page: page} }

// call: one of the four, by its name, with as many words as it takes.
type call struct {
	name string
	args []uint32
}

func of(name string, args ...uint32) call { return call{name, args} }

func (c call) String() string { return fmt.Sprintf("%s(%#x)", c.name, c.args) }

func (c call) promise() string {
	return map[string]string{"Spare": "P18.1", "Final": "P18.2", "Stop": "P18.3", "Remove": "P18.4"}[c.name]
}

func (c call) do(d *pagedb.DB) api.Code {
	switch c.name {
	case "Spare":
		return life.Spare(d, c.args[0], c.args[1])
	case "Final":
		return life.Final(d, c.args[0])
	case "Stop":
		return life.Stop(d, c.args[0])
	}
	return life.Remove(d, c.args[0])
}

func (c call) plain(p *plain) api.Code {
	switch c.name {
	case "Spare":
		return p.Spare(c.args[0], c.args[1])
	case "Final":
		return p.Final(c.args[0])
	case "Stop":
		return p.Stop(c.args[0])
	}
	return p.Remove(c.args[0])
}

// answer: a call's name, and its code.
type answer struct {
	name string
	code api.Code
}

// world: a database, each call of which is held against a plain reckoning.
type world struct {
	*testing.T
	d    *pagedb.DB
	seen map[answer]int // how often each came
}

func booted(t *testing.T, pages, shared int) world {
	t.Helper()
	m, e := mem.New(pages, shared)
	if e != api.OK {
		t.Fatalf("mem.New(%d, %d): %d", pages, shared, e)
	}
	return world{t, pagedb.New(m), map[answer]int{}}
}

// alike: every entry and every word, secure or not, is as the plain reckoning has it.
func (w world) alike(what string, p *plain) {
	w.Helper()
	for page, want := range p.entries {
		if e, _ := w.d.Entry(page); e != want {
			w.Fatalf("%s: page %d is %+v; want %+v", what, page, e, want)
		}
	}
	if w.d.Births() != p.births {
		w.Fatalf("%s: %d births; want %d", what, w.d.Births(), p.births)
	}
	w.wordsAlike(what, secure, p.secure)
	w.wordsAlike(what, insecure, p.insecure)
}

func (w world) wordsAlike(what string, frame func(int) api.Frame, pages [][]uint32) {
	w.Helper()
	for page, words := range pages {
		for off, want := range words {
			if got := w.d.Memory().Peek(frame(page), off); got != want {
				w.Fatalf("%s: the word %d of %+v is %#x; want %#x", what, off, frame(page), got, want)
			}
		}
	}
}

// do: a call, in both.
func (w world) do(c call) api.Code {
	w.Helper()
	p, meter := told(w.d), w.d.Memory().Meter()
	got, want := c.do(w.d), c.plain(p)
	touched := w.d.Memory().Meter() - meter
	if got != want {
		w.Fatalf("%s: %v = %d; want %d", c.promise(), c, got, want)
	}
	if touched < p.least || touched > p.most {
		w.Fatalf("%s: %v = %d touches %d words; want %d to %d", c.promise(), c, got, touched, p.least, p.most)
	}
	w.alike(fmt.Sprintf("%s: behind %v = %d", c.promise(), c, got), p)
	w.seen[answer{c.name, got}]++
	return got
}

// wants: a call whose code is told here too, beside the plain reckoning's.
func (w world) wants(code api.Code, c call) {
	w.Helper()
	if got := w.do(c); got != code {
		w.Fatalf("%s: %v = %d; want %d", c.promise(), c, got, code)
	}
}

// plans: Plan of a page, which touches and changes nothing.
func (w world) plans(page int, want ...int) {
	w.Helper()
	p, meter := told(w.d), w.d.Memory().Meter()
	if got := life.Plan(w.d, page); !slices.Equal(got, want) {
		w.Fatalf("P18.5: Plan(%d) = %v; want %v", page, got, want)
	}
	if w.d.Memory().Meter() != meter {
		w.Fatalf("P18.5: Plan(%d) touches words", page)
	}
	w.alike(fmt.Sprintf("P18.5: behind Plan(%d)", page), p)
}

func (w world) ok(what string, e api.Errno) {
	w.Helper()
	if e != api.OK {
		w.Fatalf("%s: %d", what, e)
	}
}

// born: a space with its table, of which nothing is measured yet.
func (w world) born(space, table int) {
	w.Helper()
	w.ok("TakeSpace", w.d.TakeSpace(space, table))
	start := measure.Start()
	w.lay(space, entry.SpaceDigest, start[:]...)
}

func (w world) take(page int, t entry.Type, space int) {
	w.Helper()
	w.ok("Take", w.d.Take(page, t, space))
}

// lay: words of a secure page, from an offset on.
func (w world) lay(page, off int, words ...uint32) {
	for i, v := range words {
		w.d.Memory().Write(secure(page), off+i, v)
	}
}

// fill: a secure page gets words of its own everywhere.
func (w world) fill(page int, v uint32) {
	for off := range 1024 {
		w.lay(page, off, v+uint32(off)*0x9e3779b1)
	}
}

func (w world) entryIs(page int, want entry.Entry) {
	w.Helper()
	if e, _ := w.d.Entry(page); e != want {
		w.Fatalf("page %d is %+v; want %+v", page, e, want)
	}
}

// wordsAre: the words of a secure page from an offset on.
func (w world) wordsAre(what string, page, off int, want ...uint32) {
	w.Helper()
	for i, v := range want {
		if got := w.d.Memory().Peek(secure(page), off+i); got != v {
			w.Fatalf("%s: the word %d of page %d is %#x; want %#x", what, off+i, page, got, v)
		}
	}
}
