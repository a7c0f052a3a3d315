package enter_test

import (
	"fmt"
	"slices"
	"testing"

	"warden/api"
	"warden/asm"
	"warden/build"
	"warden/enter"
	"warden/entry"
	"warden/life"
	"warden/mem"
	"warden/pagedb"
	"warden/valid"
)

func secure(page int) api.Frame { return api.Frame{Secure: true, Page: page} }

func insecure(page int) api.Frame { return api.Frame{Page: page} }

func bootKey() [8]uint32 { return [8]uint32{1, 0xfffffff2, 3, 4, 0x80000000, 6, 7, 8} }

// told: what a call answers.
type told struct {
	code  api.Code
	value uint32
}

// world: a machine, each call over which is held against a plain reckoning.
type world struct {
	*testing.T
	d       *pagedb.DB
	key     [8]uint32
	streams [][]uint32
	seen    map[happened]int // how often each came
}

func booted(t *testing.T, pages, shared int) world {
	t.Helper()
	m, e := mem.New(pages, shared)
	if e != api.OK {
		t.Fatalf("mem.New(%d, %d): %d", pages, shared, e)
	}
	return world{t, pagedb.New(m), bootKey(), roomy([]uint32{7, 9}), map[happened]int{}}
}

// roomy: streams with words in the spare room behind each of them.
func roomy(streams ...[]uint32) [][]uint32 {
	all := make([][]uint32, 0, len(streams)+1)
	for _, stream := range streams {
		all = append(all, append(slices.Clone(stream), 0xabcd, 0xdcba)[:len(stream)])
	}
	return all
}

// whole: streams with their spare room, as a copy.
func whole(streams [][]uint32) (all [][]uint32) {
	for _, stream := range streams[:cap(streams)] {
		all = append(all, slices.Clone(stream[:cap(stream)]))
	}
	return all
}

func (w world) ok(what string, codes ...api.Code) {
	w.Helper()
	for i, code := range codes {
		if code != api.CodeOK {
			w.Fatalf("%s, %d: the code %d", what, i, code)
		}
	}
}

// assemble: the words of a program at an address.
func (w world) assemble(program string, va uint32) []uint32 {
	w.Helper()
	words, fault := asm.Assemble(program, va)
	if fault.Err != api.OK {
		w.Fatalf("%q: %+v", program, fault)
	}
	return words
}

// write: words of an insecure page, from an offset on.
func (w world) write(page, off int, words ...uint32) {
	for i, v := range words {
		w.d.Memory().Write(insecure(page), off+i, v)
	}
}

// lay: words of a secure page, from an offset on, past all calls.
func (w world) lay(page, off int, words ...uint32) {
	for i, v := range words {
		w.d.Memory().Write(secure(page), off+i, v)
	}
}

// enclave: the chapter's: a space 0 with a program at 0x1000, in page 3, and a thread with that entry in page 5.
func enclave(t *testing.T, program string) world {
	t.Helper()
	w := booted(t, 8, 2)
	w.write(0, 0, w.assemble(program, 0x1000)...)
	w.ok("building", build.Space(w.d, 0, 1), build.Table(w.d, 0, 2, 0), build.Data(w.d, 0, 3, 0x1005, 0), build.Thread(w.d, 0, 5, 0x1000), life.Final(w.d, 0))
	w.valid()
	return w
}

// at: an enclave whose program lies at an address, at which its thread (page 5) begins too.
func at(t *testing.T, va uint32, program string) world {
	t.Helper()
	w := booted(t, 8, 1)
	w.write(0, int(va/4%1024), w.assemble(program, va)...)
	w.ok("building", build.Space(w.d, 0, 1), build.Table(w.d, 0, 2, va>>22), build.Data(w.d, 0, 3, va&^0xfff|5, 0), build.Thread(w.d, 0, 5, va), life.Final(w.d, 0))
	w.valid()
	return w
}

func (w world) valid() {
	w.Helper()
	if clause, page := valid.Broken(w.d); clause != 0 {
		w.Fatalf("%s is not so at page %d", valid.Says(clause), page)
	}
}

// done: a call, over a machine.
func (a ask) done(d *pagedb.DB) told {
	if a.resume {
		code, value := enter.Resume(d, a.key, a.streams, a.thread, a.fuel)
		return told{code, value}
	}
	code, value := enter.Enter(d, a.key, a.streams, a.thread, a.args[0], a.args[1], a.args[2], a.fuel)
	return told{code, value}
}

func (w world) enters(thread uint32, fuel int, args ...uint32) told {
	w.Helper()
	a := ask{key: w.key, streams: w.streams, thread: thread, fuel: fuel}
	copy(a.args[:], args)
	return w.do(a)
}

func (w world) resumes(thread uint32, fuel int) told {
	w.Helper()
	return w.do(ask{key: w.key, streams: w.streams, thread: thread, fuel: fuel, resume: true})
}

// do: a call, in both. The state stays valid, and no more is touched than a call of the system's may.
func (w world) do(a ask) told {
	w.Helper()
	was, r := w.d.Clone(), reckoning{w.d.Clone(), w.seen}
	given, meter := whole(a.streams), w.d.Memory().Meter()
	got, want := a.done(w.d), r.do(a)
	what := fmt.Sprintf("page %d (resume %v) with the fuel %d", a.thread, a.resume, a.fuel)
	if got != want {
		w.Fatalf("%s: %+v; want %+v", what, got, want)
	}
	w.alike("P20.5: "+what, w.d, r.d)
	if !got.ran() {
		w.alike("P20.1, P20.2: refused: "+what, w.d, was)
	}
	w.valid()
	if touched := w.d.Memory().Meter() - meter; touched > int64(256*counted(a.fuel)+8192) {
		w.Fatalf("%s: %d words touched", what, touched)
	}
	if now := whole(a.streams); !slices.EqualFunc(now, given, slices.Equal) {
		w.Fatalf("rule 5: %s: the streams are %v; were %v", what, now, given)
	}
	return got
}

// ran: of an answer that isn't a refusal.
func (a told) ran() bool {
	return a.code == api.CodeOK || a.code == api.CodeInterrupted || a.code == api.CodeFault
}

// wants: an answer that is told here too.
func (w world) wants(what string, got told, code api.Code, value uint32) {
	w.Helper()
	if got != (told{code, value}) {
		w.Fatalf("%s: %+v; want the code %d and %d", what, got, code, value)
	}
}

// alike: every entry and every word of two machines.
func (w world) alike(what string, a, b *pagedb.DB) {
	w.Helper()
	if !slices.Equal(a.Words(), b.Words()) {
		w.Fatalf("%s: the entries are %#x; want %#x", what, a.Words(), b.Words())
	}
	if a.Memory().Same(b.Memory()) {
		return
	}
	for _, frame := range frames(a.Memory()) {
		for off := range 1024 {
			if got, want := a.Memory().Peek(frame, off), b.Memory().Peek(frame, off); got != want {
				w.Fatalf("%s: the word %d of %+v is %#x; want %#x", what, off, frame, got, want)
			}
		}
	}
	w.Fatalf("%s: the memories aren't alike", what)
}

// frames: all of a memory's.
func frames(m *mem.Memory) (all []api.Frame) {
	for page := range m.Secure() {
		all = append(all, secure(page))
	}
	for page := range m.Insecure() {
		all = append(all, insecure(page))
	}
	return all
}

// saved: the words that a thread's page keeps of its file.
func (w world) saved(page int) (words [17]uint32) {
	for i := range words {
		words[i] = w.d.Memory().Peek(secure(page), entry.ThreadSaved+i)
	}
	return words
}

// stands: a thread is interrupted with just these words.
func (w world) stands(what string, page int, want [17]uint32) {
	w.Helper()
	e, _ := w.d.Entry(page)
	if got := w.saved(page); !e.Entered || got != want {
		w.Fatalf("P20.4: %s: entered %v, saved %#x; want %#x", what, e.Entered, got, want)
	}
}

// standsAt: a thread is interrupted at that address.
func (w world) standsAt(what string, page int, pc uint32) {
	w.Helper()
	e, _ := w.d.Entry(page)
	if got := w.saved(page)[15]; !e.Entered || got != pc {
		w.Fatalf("P20.3: %s: entered %v, at %#x; want %#x", what, e.Entered, got, pc)
	}
}

// isGone: nothing of a thread's file is kept.
func (w world) isGone(what string, page int) {
	w.Helper()
	e, _ := w.d.Entry(page)
	if got := w.saved(page); e.Entered || got != [17]uint32{} {
		w.Fatalf("P20.4: %s: entered %v, saved %#x", what, e.Entered, got)
	}
}

func (w world) word(page, off int) uint32 { return w.d.Memory().Peek(secure(page), off) }
