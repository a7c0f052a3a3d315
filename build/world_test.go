package build_test

import (
	"fmt"
	"testing"

	"warden/api"
	"warden/build"
	"warden/entry"
	"warden/mem"
	"warden/pagedb"
	"warden/valid"
)

func secure(page int) api.Frame { return api.Frame{Secure: true, Page: page} }

func insecure(page int) api.Frame { return api.Frame{Page: page} }

// call: one of the five, by its name, with as many words as it takes.
type call struct {
	name string
	args []uint32
}

func of(name string, args ...uint32) call { return call{name, args} }

func (c call) String() string { return fmt.Sprintf("%s(%#x)", c.name, c.args) }

func (c call) promise() string {
	return map[string]string{"Space": "P17.1", "Thread": "P17.3", "Table": "P17.4", "Data": "P17.5", "Share": "P17.6"}[c.name]
}

func (c call) do(d *pagedb.DB) api.Code {
	a := c.args
	switch c.name {
	case "Space":
		return build.Space(d, a[0], a[1])
	case "Thread":
		return build.Thread(d, a[0], a[1], a[2])
	case "Table":
		return build.Table(d, a[0], a[1], a[2])
	case "Data":
		return build.Data(d, a[0], a[1], a[2], a[3])
	}
	return build.Share(d, a[0], a[1], a[2])
}

func (c call) plain(p *plain) api.Code {
	a := c.args
	switch c.name {
	case "Space":
		return p.Space(a[0], a[1])
	case "Thread":
		return p.Thread(a[0], a[1], a[2])
	case "Table":
		return p.Table(a[0], a[1], a[2])
	case "Data":
		return p.Data(a[0], a[1], a[2], a[3])
	}
	return p.Share(a[0], a[1], a[2])
}

// world: a database and the plain machine, which must stay alike.
type world struct {
	*testing.T
	d    *pagedb.DB
	p    *plain
	seen map[answer]int // how often each came
}

// answer: a call's name, and its code.
type answer struct {
	name string
	code api.Code
}

func booted(t *testing.T, pages, shared int) world {
	t.Helper()
	m, e := mem.New(pages, shared)
	if e != api.OK {
		t.Fatalf("mem.New(%d, %d): %d", pages, shared, e)
	}
	return world{t, pagedb.New(m), newPlain(pages, shared), map[answer]int{}}
}

// alike: every entry and every word, secure or not, is as the plain machine has it; and the state is valid.
func (w world) alike(what string) {
	w.Helper()
	for page, want := range w.p.entries {
		if e, _ := w.d.Entry(page); e != want {
			w.Fatalf("P17.7: %s: page %d is %+v; want %+v", what, page, e, want)
		}
	}
	if w.d.Births() != w.p.births {
		w.Fatalf("P17.7: %s: %d births; want %d", what, w.d.Births(), w.p.births)
	}
	w.wordsAlike(what, secure, w.p.secure)
	w.wordsAlike(what, insecure, w.p.insecure)
	if clause, page := valid.Broken(w.d); clause != 0 {
		w.Fatalf("P17.7: %s: %s is not so at page %d", what, valid.Says(clause), page)
	}
}

func (w world) wordsAlike(what string, frame func(int) api.Frame, pages [][]uint32) {
	w.Helper()
	for page, words := range pages {
		for off, want := range words {
			if got := w.d.Memory().Peek(frame(page), off); got != want {
				w.Fatalf("P17.7: %s: the word %d of %+v is %#x; want %#x", what, off, frame(page), got, want)
			}
		}
	}
}

// do: a call, in both. No call of the system's may touch more than 8192 words, whatever it finds.
func (w world) do(c call) api.Code {
	w.Helper()
	meter := w.d.Memory().Meter()
	got, want := c.do(w.d), c.plain(w.p)
	if got != want {
		w.Fatalf("%s: %v = %d; want %d", c.promise(), c, got, want)
	}
	if n := w.d.Memory().Meter() - meter; n > 8192 {
		w.Fatalf("W6: %v touches %d words", c, n)
	}
	w.alike(fmt.Sprintf("behind %v = %d", c, got))
	w.seen[answer{c.name, got}]++
	return got
}

// wants: a call whose code is told here too, beside the plain machine's.
func (w world) wants(code api.Code, c call) {
	w.Helper()
	if got := w.do(c); got != code {
		w.Fatalf("%s: %v = %d; want %d", c.promise(), c, got, code)
	}
}

// write: the system's own doing: a word of an insecure page.
func (w world) write(page, off int, v uint32) {
	w.d.Memory().Write(insecure(page), off, v)
	w.p.insecure[page][off] = v
}

// fill: an insecure page gets words of its own everywhere.
func (w world) fill(page int, v uint32) {
	for off := range 1024 {
		w.write(page, off, v+uint32(off)*0x9e3779b1)
	}
}

func (w world) setState(page int, s entry.State) {
	w.Helper()
	if e := w.d.SetState(page, s); e != api.OK {
		w.Fatalf("SetState(%d, %d): %d", page, s, e)
	}
	w.p.entries[page].State = s
}

// final: ends the building as the layer above does; the measurement may be any here.
func (w world) final(page int) {
	w.Helper()
	for off := entry.SpaceDigest; off < entry.SpaceUsed; off++ {
		w.d.Memory().Write(secure(page), off, 0)
		w.p.secure[page][off] = 0
	}
	w.setState(page, entry.Final)
}

// drop: stops a space, and gives all its pages back.
func (w world) drop(page int) {
	w.Helper()
	w.setState(page, entry.Stopped)
	for _, p := range append(w.d.Owned(page), page) {
		if e := w.d.Give(p); e != api.OK {
			w.Fatalf("Give(%d): %d", p, e)
		}
		w.p.entries[p] = entry.Entry{}
		clear(w.p.secure[p])
	}
	delete(w.p.measured, uint32(page))
}
