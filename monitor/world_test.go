package monitor_test

import (
	"fmt"
	"slices"
	"testing"

	"warden/api"
	"warden/asm"
	"warden/attest"
	"warden/mem"
	"warden/monitor"
	"warden/pagedb"
	"warden/valid"
)

// called: a call's number, and the code that it answered.
type called struct {
	number uint32
	code   api.Code
}

// world: a machine, each call over which is held against the plain one.
type world struct {
	*testing.T
	m     *monitor.Monitor
	plain *plain
	seen  map[called]int
}

func secure(page int) api.Frame { return api.Frame{Secure: true, Page: page} }

func insecure(page int) api.Frame { return api.Frame{Page: page} }

func seed() [8]uint32 { return [8]uint32{5, 0x80000001, 7, 0xffffffff, 0, 1, 2, 3} }

func made(t *testing.T, c monitor.Config) *monitor.Monitor {
	t.Helper()
	m, e := monitor.New(c)
	if m == nil || e != api.OK {
		t.Fatalf("P21.1: New of %d and %d pages, %d streams: %v, %d", c.Secure, c.Insecure, len(c.Streams), m, e)
	}
	return m
}

func booted(t *testing.T, c monitor.Config) world {
	t.Helper()
	m := made(t, c)
	memory, _ := mem.New(c.Secure, c.Insecure)
	w := world{t, m, &plain{d: pagedb.New(memory), key: attest.Key(c.Seed), streams: c.Streams}, map[called]int{}}
	w.same("New")
	return w
}

// of: a machine of so many pages, with two streams.
func of(t *testing.T, pages, shared int) world {
	t.Helper()
	return booted(t, monitor.Config{Secure: pages, Insecure: shared, Seed: seed(), Streams: [][]uint32{{77, 78}, {5}}})
}

// same: both machines have the same registers, entries, words and meter, and the state is valid.
func (w world) same(what string) {
	w.Helper()
	if got := w.m.Registers(); got != w.plain.r {
		w.Fatalf("%s: the registers are %#x; want %#x", what, got, w.plain.r)
	}
	alike(w.T, what, w.m.DB(), w.plain.d)
	if got, want := w.m.Meter(), w.plain.d.Memory().Meter(); got != want {
		w.Fatalf("%s: the meter is at %d; want %d", what, got, want)
	}
	if clause, page := valid.Broken(w.m.DB()); clause != 0 {
		w.Fatalf("P21.8: %s: %s is not so at page %d", what, valid.Says(clause), page)
	}
}

// alike: every entry and every word of two databases.
func alike(t *testing.T, what string, a, b *pagedb.DB) {
	t.Helper()
	if !slices.Equal(a.Words(), b.Words()) {
		t.Fatalf("%s: the entries are %#x; want %#x", what, a.Words(), b.Words())
	}
	if !a.Memory().Same(b.Memory()) {
		t.Fatalf("%s: the words of the pages are not those that they should be", what)
	}
}

// sameShared: the insecure pages of two databases hold the same.
func sameShared(a, b *pagedb.DB) bool {
	for page := range a.Memory().Insecure() {
		for off := range 1024 {
			if a.Memory().Peek(insecure(page), off) != b.Memory().Peek(insecure(page), off) {
				return false
			}
		}
	}
	return true
}

// set: registers from r0 on.
func (w world) set(words ...uint32) {
	w.Helper()
	for i, v := range words {
		if e := w.m.SetRegister(i, v); e != api.OK {
			w.Fatalf("P21.3: SetRegister(%d): %d", i, e)
		}
		w.plain.r[i] = v
	}
	w.same("SetRegister")
}

// smc: the call that the registers say, in both.
func (w world) smc(fuel int) api.Code {
	w.Helper()
	asked := w.m.Registers()
	return w.held(asked, fuel, func() api.Code { return w.m.Smc(fuel) })
}

// do: a call by Do, in both; its value too.
func (w world) do(fuel int, words ...uint32) (api.Code, uint32) {
	w.Helper()
	asked := w.plain.r
	var five [5]uint32
	copy(five[:], words)
	copy(asked[:], five[:])
	w.plain.r = asked
	var value uint32
	code := w.held(asked, fuel, func() (code api.Code) {
		code, value = w.m.Do(five[0], five[1], five[2], five[3], five[4], fuel)
		return code
	})
	if value != w.m.Registers()[1] {
		w.Fatalf("P21.5: Do of %#x: %#x; r1 is %#x", five, value, w.m.Registers()[1])
	}
	return code, value
}

// held: a call with these registers, held against the plain machine's, and against what no call may do.
func (w world) held(asked [15]uint32, fuel int, call func() api.Code) api.Code {
	w.Helper()
	what := fmt.Sprintf("the call %#x with the fuel %d", asked[:5], fuel)
	was, meter := w.m.DB().Clone(), w.m.Meter()
	code := call()
	if want := w.plain.smc(fuel); code != want {
		w.Fatalf("P21.4: %s: %d; want %d", what, code, want)
	}
	w.same("P21.4: " + what)
	if touched := w.m.Meter() - meter; touched > monitor.Bound(fuel) {
		w.Fatalf("P21.7: %s: %d words touched; the bound is %d", what, touched, monitor.Bound(fuel))
	}
	w.nothingElse(what, asked, was, code)
	w.seen[called{asked[0], code}]++
	return code
}

// nothingElse: what P21.4 and P21.9 say that a call leaves as it was.
func (w world) nothingElse(what string, asked [15]uint32, was *pagedb.DB, code api.Code) {
	w.Helper()
	r := w.m.Registers()
	if r[0] != uint32(code) || !slices.Equal(r[2:], asked[2:]) {
		w.Fatalf("P21.4: behind %s the registers are %#x", what, r)
	}
	runs := asked[0] == 17 || asked[0] == 18
	if !runs && asked[0] > 3 && r[1] != 0 {
		w.Fatalf("P21.4: %s: the value %#x", what, r[1])
	}
	if code != api.CodeOK && code != api.CodeInterrupted && code != api.CodeFault {
		alike(w.T, "P21.9: refused: "+what, w.m.DB(), was)
		if r[1] != 0 {
			w.Fatalf("P21.4: refused: %s: the value %#x", what, r[1])
		}
	}
	if !runs && !sameShared(w.m.DB(), was) {
		w.Fatalf("P21.9: %s changes an insecure page", what)
	}
}

// wants: a call whose answer is told here too.
func (w world) wants(code api.Code, value uint32, fuel int, words ...uint32) {
	w.Helper()
	if c, v := w.do(fuel, words...); c != code || v != value {
		w.Fatalf("Do%#x with the fuel %d: %d, %#x; want %d, %#x", words, fuel, c, v, code, value)
	}
}

// takes: calls that are answered CodeOK and 0.
func (w world) takes(calls ...[]uint32) {
	w.Helper()
	for _, words := range calls {
		w.wants(api.CodeOK, 0, 0, words...)
	}
}

// write: words of an insecure page, in both, from an offset on.
func (w world) write(page, off int, words ...uint32) {
	w.Helper()
	for i, v := range words {
		if e := w.m.Write(page, off+i, v); e != api.OK {
			w.Fatalf("P21.3: Write(%d, %d): %d", page, off+i, e)
		}
		w.plain.d.Memory().Write(insecure(page), off+i, v)
	}
}

// program: into the insecure page 0, to lie at 0x1000; behind it zeros.
func (w world) program(source string) {
	w.Helper()
	words, fault := asm.Assemble(source, 0x1000)
	if fault.Err != api.OK {
		w.Fatalf("%q: %+v", source, fault)
	}
	w.write(0, 0, append(words, make([]uint32, 1024-len(words))...)...)
}

// raise: an enclave in the nine pages from s on: the space, its table, a second-level table for the addresses from 0 on, the program (0x1000, to be written and executed too), a data page (0x2000, to be written), two threads that begin at 0x1000 and at 0x1008, two spare pages. It shares the insecure pages 1 (0x3000, to be written) and 0 (0x4000).
func (w world) raise(s uint32, source string) {
	w.Helper()
	w.program(source)
	w.takes([][]uint32{
		{10, s, s + 1}, {12, s, s + 2, 0}, {13, s, s + 3, 0x1007, 0}, {13, s, s + 4, 0x2003, 0}, {11, s, s + 5, 0x1000}, {11, s, s + 6, 0x1008},
		{14, s, 0x3003, 1}, {14, s, 0x4001, 0}, {16, s}, {15, s, s + 7}, {15, s, s + 8},
	}...)
}
