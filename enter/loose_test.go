package enter_test

import (
	"testing"

	"warden/api"
	"warden/entry"
	"warden/pagedb"
	"warden/valid"
)

// anyEntry: of every type, owned mostly by one of the two spaces.
func (c chance) anyEntry(pages int) entry.Entry {
	owner := []int{0, 0, 9, c.Intn(pages)}[c.Intn(4)]
	switch t := entry.Type(c.Intn(int(entry.Types))); t {
	case entry.Free:
		return entry.Entry{}
	case entry.Space:
		return entry.Entry{Type: t, Owner: owner, Refs: c.Intn(64), State: entry.Init + entry.State(c.Intn(3))}
	case entry.Thread:
		return entry.Entry{Type: t, Owner: owner, Entered: c.Intn(2) == 0}
	default:
		return entry.Entry{Type: t, Owner: owner}
	}
}

// anyWord: mostly one that names a page, as a number or as a descriptor: so that spaces, tables and threads come to be mapped.
func (c chance) anyWord(pages int) uint32 {
	page := uint32(c.Intn(pages + 2))
	return []uint32{0, page, 256*page + 1, 256*page + 3 + uint32(c.Intn(4))*4, 256*page + 15, c.Uint32()}[c.Intn(6)]
}

// harmed: a machine with words written past all calls, and entries that don't go together.
func (c chance) harmed(t *testing.T, base *pagedb.DB) *pagedb.DB {
	m := base.Clone().Memory()
	words := base.Words()
	for page := range m.Secure() {
		if c.Intn(10) == 0 {
			pair, e := entry.Encode(c.anyEntry(m.Secure()))
			if e != api.OK {
				t.Fatalf("no entry: %d", e)
			}
			copy(words[1+2*page:], pair[:])
		}
		for _, off := range []int{0, 1, 2, 3, 4, 5, 16, 17, 18, c.Intn(1024)} {
			if c.Intn(8) == 0 {
				m.Write(secure(page), off, c.anyWord(m.Secure()))
			}
		}
	}
	d, e := pagedb.Load(m, words)
	if e != api.OK {
		t.Fatalf("pagedb.Load: %d", e)
	}
	return d
}

// Over states that aren't valid every call ends.
func TestLooseStates(t *testing.T) {
	broken, codes := 0, map[api.Code]int{}
	for seed := range int64(400) {
		c := seeded(20800 + seed)
		w := booted(t, 20, 4)
		w.raise(0, c.program(0))
		w.raise(9, c.program(9))
		w.enters(5, c.Intn(50))
		d := c.harmed(t, w.d)
		if clause, _ := valid.Broken(d); clause != 0 {
			broken++
		}
		for page := range uint32(22) {
			for _, resume := range []bool{false, true} {
				a := ask{key: bootKey(), streams: c.draws(), resume: resume, thread: page, args: [3]uint32{c.Uint32(), c.Uint32(), c.Uint32()}, fuel: c.fuel()}
				codes[a.done(d).code]++
			}
		}
	}
	if broken < 300 {
		t.Errorf("only %d states aren't valid", broken)
	}
	for _, code := range []api.Code{api.CodeOK, api.CodeInterrupted, api.CodeFault, api.CodePage, api.CodeThread, api.CodeNotFinal, api.CodeEntered, api.CodeNotEntered} {
		if codes[code] < 5 {
			t.Errorf("the code %d comes %d times", code, codes[code])
		}
	}
}

// A space without a table, saved words that are no file, an owner that is no space.
func TestLooseThreads(t *testing.T) {
	for _, harm := range []func(w world){
		func(w world) { w.lay(0, entry.SpaceFirst, 2) },
		func(w world) { w.lay(0, entry.SpaceFirst, 0xffffffff) },
		func(w world) { w.lay(5, entry.ThreadSaved+16, 3) },
		func(w world) { w.lay(5, entry.ThreadSaved+16, 0x80000000) },
		func(w world) { w.d.SetEntered(5, true); w.lay(5, entry.ThreadSaved+16, 7) },
	} {
		w := enclave(t, "svc 6\nsvc 0")
		harm(w)
		for _, fuel := range []int{0, 1, 5, 100} {
			for _, resume := range []bool{false, true} {
				ask{key: bootKey(), resume: resume, thread: 5, fuel: fuel}.done(w.d)
			}
		}
	}
}

// A thread into which its own space's page, or its own page, is mapped may take away what it runs by; the call ends all the same.
func TestLooseMappings(t *testing.T) {
	for _, program := range []string{
		"movi r3 0x2000\nmovi r4 2\nstr r4 r3 0\nsvc 6\nsvc 6\nsvc 0",                   // the table is another one
		"movi r3 0x2000\nmovi r4 2\nx: str r4 r3 0\nsvc 3\nb al x",                      // again and again
		"movi r3 0x2000\nmovi r4 1\nstr r4 r3 68\nx: addi r4 r4 1\nstr r4 r3 0\nb al x", // the saved words
	} {
		for page := range uint32(8) {
			for _, fuel := range []int{3, 4, 64, 70, 1000, 100000} {
				w := enclave(t, program)
				w.lay(2, 2, 256*page+7)
				a := ask{key: bootKey(), thread: 5, fuel: fuel}
				a.done(w.d)
				a.resume = true
				a.done(w.d)
			}
		}
	}
}
