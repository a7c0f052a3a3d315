package valid_test

import (
	"testing"

	"warden/api"
	"warden/entry"
	"warden/mem"
	"warden/pagedb"
	"warden/sha"
	"warden/valid"
)

// world: a state that is built step by step, and asked behind each.
type world struct {
	*testing.T
	*pagedb.DB
}

func memory(t *testing.T, secure, insecure int) *mem.Memory {
	t.Helper()
	m, e := mem.New(secure, insecure)
	world{T: t}.ok("mem.New", e)
	return m
}

func (w world) ok(what string, e api.Errno) {
	w.Helper()
	if e != api.OK {
		w.Fatalf("%s: %d", what, e)
	}
}

// put: one word; it says which stood there, for laying it back.
func (w world) put(page, off int, v uint32) uint32 {
	w.Helper()
	was := w.Memory().Peek(secure(page), off)
	w.ok("Write", w.Memory().Write(secure(page), off, v))
	return was
}

func (w world) lay(page, off int, words []uint32) {
	w.Helper()
	for i, v := range words {
		w.put(page, off+i, v)
	}
}

// digest: the words of a digest of no words in a space's page; wiped: none there.
func (w world) digest(page int) {
	w.Helper()
	saved := sha.New().Save()
	w.lay(page, 11, saved[:])
}

func (w world) wiped(page int) {
	w.Helper()
	w.lay(page, 11, make([]uint32, 26))
}

func (w world) take(page int, kind entry.Type, space int) {
	w.Helper()
	w.ok("Take", w.Take(page, kind, space))
}

func (w world) state(space int, s entry.State) {
	w.Helper()
	w.ok("SetState", w.SetState(space, s))
}

// final: the state is Final, and the digest is gone.
func (w world) final(space int) {
	w.Helper()
	w.state(space, entry.Final)
	w.wiped(space)
}

// begin: the state with which the chapter's examples begin: 8 pages over a memory with 2 insecure ones, page 0 a space, page 1 its first table.
func begin(t *testing.T) world {
	t.Helper()
	w := world{t, pagedb.New(memory(t, 8, 2))}
	w.ok("TakeSpace", w.TakeSpace(0, 1))
	w.digest(0)
	w.is("a space", 0, 0)
	return w
}

// mapped: the state of the third example: page 2 a second table, named at word 3 of page 1; page 3 a data page, mapped at word 9 of page 2.
func mapped(t *testing.T) world {
	t.Helper()
	w := begin(t)
	w.take(2, entry.Second, 0)
	w.put(1, 3, 0x201)
	w.take(3, entry.Data, 0)
	w.put(2, 9, 0x303)
	w.is("a data page", 0, 0)
	return w
}

// is: what Broken tells; and all else is told as the plain sums tell it.
func (w world) is(what string, clause, page int) {
	w.Helper()
	if c, p := valid.Broken(w.DB); c != clause || p != page {
		w.Fatalf("P13.2: %s: clause %d, page %d; want %d, %d", what, c, p, clause, page)
	}
	agrees(w.T, what, w.DB)
}

// step: a word that is laid, for good, and what Broken tells then.
type step struct {
	what         string
	page, off    int
	word         uint32
	clause, told int
}

func (w world) steps(l ...step) {
	w.Helper()
	for _, s := range l {
		w.put(s.page, s.off, s.word)
		w.is(s.what, s.clause, s.told)
	}
}

// told: whether one clause holds, whatever the others do.
func (w world) told(what string, clause int, holds bool) {
	w.Helper()
	if valid.Holds(w.DB, clause) != holds {
		w.Fatalf("P13.1: %s: Holds(%d) = %t", what, clause, !holds)
	}
	agrees(w.T, what, w.DB)
}

// tries: what Broken tells while a word stands at a place, and that the state is as it was without it.
func (w world) tries(what string, page, off int, v uint32, clause, at int) {
	w.Helper()
	was := w.put(page, off, v)
	if c, p := valid.Broken(w.DB); c != clause || p != at {
		w.Fatalf("P13.2: %s: %#x at word %d of page %d: clause %d, page %d; want %d, %d", what, v, off, page, c, p, clause, at)
	}
	w.put(page, off, was)
}

// rows: entries that need not go together, over a memory of as many pages.
func rows(t *testing.T, births uint32, l ...entry.Entry) world {
	t.Helper()
	words := []uint32{births}
	for _, x := range l {
		pair, e := entry.Encode(x)
		if e != api.OK {
			t.Fatalf("entry.Encode(%+v): %d", x, e)
		}
		words = append(words, pair[0], pair[1])
	}
	d, e := pagedb.Load(memory(t, len(l), 2), words)
	w := world{t, d}
	w.ok("Load", e)
	return w
}

// with: the same memory under one entry that is another.
func (w world) with(page int, x entry.Entry) world {
	w.Helper()
	words := w.Words()
	pair, e := entry.Encode(x)
	w.ok("Encode", e)
	words[1+2*page], words[2+2*page] = pair[0], pair[1]
	d, e := pagedb.Load(w.Memory(), words)
	w.ok("Load", e)
	return world{w.T, d}
}
