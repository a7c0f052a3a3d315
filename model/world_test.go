package model_test

import (
	"fmt"
	"testing"

	"warden/api"
	"warden/asm"
	"warden/model"
	"warden/monitor"
	"warden/pagedb"
	"warden/valid"
)

// called: a call's number, and the code that it answered.
type called struct {
	number uint32
	code   api.Code
}

// world: a machine and a model, which are told the same, and held against each other behind each step.
type world struct {
	*testing.T
	m    *monitor.Monitor
	n    *model.Model
	seen map[called]int
}

func secure(page int) api.Frame { return api.Frame{Secure: true, Page: page} }

func insecure(page int) api.Frame { return api.Frame{Page: page} }

func seed() [8]uint32 { return [8]uint32{5, 0x80000001, 7, 0xffffffff, 0, 1, 2, 3} }

func config(pages, shared int) monitor.Config {
	return monitor.Config{Secure: pages, Insecure: shared, Seed: seed(), Streams: [][]uint32{{77, 78}, {5}}}
}

func made(t *testing.T, c monitor.Config) *model.Model {
	t.Helper()
	n, e := model.New(c)
	if n == nil || e != api.OK {
		t.Fatalf("P22.1: New of %d and %d pages, %d streams: %v, %d", c.Secure, c.Insecure, len(c.Streams), n, e)
	}
	return n
}

func read(t *testing.T, m *monitor.Monitor) *model.Model {
	t.Helper()
	n, e := model.Of(m)
	if n == nil || e != api.OK {
		t.Fatalf("P22.4: Of: %v, %d", n, e)
	}
	return n
}

func booted(t *testing.T, c monitor.Config) world {
	t.Helper()
	m, e := monitor.New(c)
	if e != api.OK {
		t.Fatalf("monitor.New: %d", e)
	}
	w := world{t, m, made(t, c), map[called]int{}}
	w.same("P22.1: New")
	return w
}

// over: a machine over that database, and the model of it.
func (w world) over(d *pagedb.DB) world {
	w.Helper()
	m, e := monitor.Over(w.m.Config(), d, w.m.Registers())
	if e != api.OK {
		clause, page := valid.Broken(d)
		w.Fatalf("monitor.Over: %d: %s is not so at page %d", e, valid.Says(clause), page)
	}
	w.m, w.n = m, read(w.T, m)
	w.same("P22.4: Of")
	return w
}

// same: the model is the model of the machine, as Part and Same tell it, and as each call tells it by itself.
func (w world) same(what string) {
	w.Helper()
	if got, want := w.n.Registers(), w.m.Registers(); got != want {
		w.Fatalf("P22.2: %s: the registers are %#x; want %#x", what, got, want)
	}
	of := read(w.T, w.m)
	if a, b := model.Part(of, w.n), model.Part(w.n, of); a != "" || b != "" || !model.Same(of, w.n) || !model.Same(w.n, of) {
		w.Fatalf("P22.6: %s: the machine's model and the model part: %s; %s", what, a, b)
	}
	w.sameWords(what)
	w.samePages(what)
}

// sameWords: what the system reads of each insecure page.
func (w world) sameWords(what string) {
	w.Helper()
	memory := w.m.DB().Memory()
	for page := range memory.Insecure() {
		for off := range 1024 {
			if got, e := w.n.Read(page, off); e != api.OK || got != memory.Peek(insecure(page), off) {
				w.Fatalf("P22.2: %s: Read(%d, %d): %#x, %d; want %#x", what, page, off, got, e, memory.Peek(insecure(page), off))
			}
		}
	}
}

// do: a call of both.
func (w world) do(fuel int, words ...uint32) (api.Code, uint32) {
	w.Helper()
	var five [5]uint32
	copy(five[:], words)
	what := fmt.Sprintf("Do%#x with the fuel %d", five, fuel)
	code, value := w.m.Do(five[0], five[1], five[2], five[3], five[4], fuel)
	if c, v := w.n.Do(five[0], five[1], five[2], five[3], five[4], fuel); c != code || v != value {
		w.Fatalf("P22.2: %s: %d, %#x; the machine %d, %#x", what, c, v, code, value)
	}
	w.same(what)
	w.seen[called{five[0], code}]++
	return code, value
}

// wants: a call whose answer is told here too.
func (w world) wants(code api.Code, value uint32, fuel int, words ...uint32) {
	w.Helper()
	if c, v := w.do(fuel, words...); c != code || v != value {
		w.Fatalf("Do%#x with the fuel %d: %d, %#x; want %d, %#x", words, fuel, c, v, code, value)
	}
}

// takes: calls that are answered CodeOK and 0.
func (w world) takes(calls ...[]uint32) {
	w.Helper()
	for _, words := range calls {
		w.wants(api.CodeOK, 0, 0, words...)
	}
}

// set: registers from r0 on, in both.
func (w world) set(words ...uint32) {
	w.Helper()
	for i, v := range words {
		if e := w.n.SetRegister(i, v); e != w.m.SetRegister(i, v) {
			w.Fatalf("P22.2: SetRegister(%d): %d", i, e)
		}
	}
}

// write: words of an insecure page, in both, from an offset on.
func (w world) write(page, off int, words ...uint32) {
	w.Helper()
	for i, v := range words {
		if e := w.n.Write(page, off+i, v); e != w.m.Write(page, off+i, v) {
			w.Fatalf("P22.2: Write(%d, %d): %d", page, off+i, e)
		}
	}
}

// program: into the insecure page 0, to lie at 0x1000; behind it zeros.
func (w world) program(source string) {
	w.Helper()
	words, fault := asm.Assemble(source, 0x1000)
	if fault.Err != api.OK {
		w.Fatalf("%q: %+v", source, fault)
	}
	w.write(0, 0, append(words, make([]uint32, 1024-len(words))...)...)
}

// raise: an enclave in the nine pages from s on: the space, its table, a second-level table for the addresses from 0 on, the program (0x1000, to be written and executed too), a data page (0x2000, to be written), two threads that begin at 0x1000 and at 0x1008, two spare pages. It shares the insecure pages 1 (0x3000, to be written) and 0 (0x4000).
func (w world) raise(s uint32, source string) {
	w.Helper()
	w.program(source)
	w.takes([][]uint32{
		{10, s, s + 1}, {12, s, s + 2, 0}, {13, s, s + 3, 0x1007, 0}, {13, s, s + 4, 0x2003, 0}, {11, s, s + 5, 0x1000}, {11, s, s + 6, 0x1008},
		{14, s, 0x3003, 1}, {14, s, 0x4001, 0}, {16, s}, {15, s, s + 7}, {15, s, s + 8},
	}...)
}

// settled: a machine with an enclave in the pages 0 to 8, whose thread in page 5 is interrupted, and one in the pages 9 to 12 that is being built; page 13 is free.
func settled(t *testing.T) world {
	t.Helper()
	w := booted(t, config(14, 2))
	w.raise(0, "addi r0 r0 1\nb al -2")
	w.wants(api.CodeInterrupted, 0, 10, 17, 5, 1, 2, 3)
	w.takes([]uint32{10, 9, 10}, []uint32{12, 9, 11, 3}, []uint32{11, 9, 12, 77})
	return w
}
