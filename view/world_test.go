package view_test

import (
	"fmt"
	"slices"
	"testing"

	"warden/api"
	"warden/asm"
	"warden/monitor"
	"warden/valid"
	"warden/view"
)

func secure(page int) api.Frame { return api.Frame{Secure: true, Page: page} }

func insecure(page int) api.Frame { return api.Frame{Page: page} }

func seed() [8]uint32 { return [8]uint32{1, 2, 3, 0x80000004, 5, 6, 7, 0xfffffff8} }

// world: a machine; each call of the package is held against the plain one.
type world struct {
	*testing.T
	m    *monitor.Monitor
	seen map[string]int // how often each kind of answer came
}

func booted(t *testing.T, secure, insecure int, streams ...[]uint32) world {
	t.Helper()
	m, e := monitor.New(monitor.Config{Secure: secure, Insecure: insecure, Seed: seed(), Streams: streams})
	if e != api.OK {
		t.Fatalf("monitor.New of %d and %d pages: %d", secure, insecure, e)
	}
	return world{t, m, map[string]int{}}
}

// does: a call that answers this.
func (w world) does(code api.Code, fuel int, words ...uint32) uint32 {
	w.Helper()
	r := append(words, 0, 0, 0, 0)
	got, value := w.m.Do(r[0], r[1], r[2], r[3], r[4], fuel)
	if got != code {
		w.Fatalf("the call %v: %d; want %d", words, got, code)
	}
	return value
}

// lay: a program's words in an insecure page, and behind them others.
func (w world) lay(page int, source string, more ...uint32) {
	w.Helper()
	words, fault := asm.Assemble(source, 0x1000)
	if fault.Err != api.OK {
		w.Fatalf("%q: %+v", source, fault)
	}
	for off, v := range append(words, more...) {
		w.write(page, off, v)
	}
}

func (w world) write(page, off int, v uint32) {
	w.Helper()
	if e := w.m.Write(page, off, v); e != api.OK {
		w.Fatalf("Write(%d, %d): %d", page, off, e)
	}
}

// chapter: the machine of the chapter's examples; the thread is interrupted, if that is asked for.
func chapter(t *testing.T, interrupted bool) world {
	t.Helper()
	w := booted(t, 8, 2, []uint32{1, 2, 3})
	w.write(0, 0, 5)
	w.does(api.CodeOK, 0, api.CallSpace, 0, 1)
	w.does(api.CodeOK, 0, api.CallTable, 0, 2, 0)
	w.does(api.CodeOK, 0, api.CallData, 0, 3, 0x1005, 0)
	w.does(api.CodeOK, 0, api.CallShare, 0, 0x3003, 1)
	w.does(api.CodeOK, 0, api.CallThread, 0, 4, 0x1000)
	w.does(api.CodeOK, 0, api.CallFinal, 0)
	w.write(0, 0, 0)
	if interrupted {
		w.does(api.CodeInterrupted, 0, api.CallEnter, 4, 9, 9, 9)
	}
	return w
}

// town: enclaves of all kinds beside one another. Birth 0 was removed; 1 is final, at home in page 9, with an interrupted thread in page 1 and one that isn't in page 15; 2 is being built, at home in page 6; 3 was stopped while a thread was interrupted, at home in page 12, its tables' pages being others' by now; 4 is final, at home in page 18, with an interrupted thread.
func town(t *testing.T) world {
	t.Helper()
	w := booted(t, 24, 6, []uint32{70}, []uint32{71, 72, 73}, nil, []uint32{}, []uint32{74})
	w.does(api.CodeOK, 0, api.CallSpace, 0, 1)
	for _, call := range [][]uint32{{api.CallStop, 0}, {api.CallRemove, 1}, {api.CallRemove, 0}} {
		w.does(api.CodeOK, 0, call...)
	}
	w.first()
	w.write(0, 0, 0xabcd)
	for _, call := range [][]uint32{{api.CallSpace, 6, 0}, {api.CallTable, 6, 7, 255}, {api.CallData, 6, 8, 0x3fc00003, 0}, {api.CallThread, 6, 11, 0x1000}, {api.CallShare, 6, 0x3fc05003, 2}, {api.CallSpare, 6, 23}} {
		w.does(api.CodeOK, 0, call...)
	}
	w.third()
	w.lay(0, "movi r3 0x2000\nx: svc 6\nadd r1 r1 r0\nstr r1 r3 0\nb al x")
	for _, call := range [][]uint32{{api.CallSpace, 18, 13}, {api.CallTable, 18, 14, 0}, {api.CallData, 18, 16, 0x1005, 0}, {api.CallShare, 18, 0x2003, 2}, {api.CallThread, 18, 17, 0x1000}, {api.CallFinal, 18}} {
		w.does(api.CodeOK, 0, call...)
	}
	w.does(api.CodeInterrupted, 7, api.CallEnter, 17, 100)
	w.write(0, 0, 0)
	w.write(5, 1023, 0xffffffff)
	w.m.SetRegister(14, 0x80000000)
	w.whole()
	return w
}

// first: the enclave of birth 1.
func (w world) first() {
	w.Helper()
	w.lay(0, "x: movi r9 0xffff\nsvc 6\ncmpi r1 40\nmovi r3 0x2000\nstr r1 r3 8\nb al x", 1, 2, 0xffffffff)
	for _, call := range [][]uint32{{api.CallSpace, 9, 4}, {api.CallTable, 9, 10, 0}, {api.CallTable, 9, 3, 77}, {api.CallData, 9, 20, 0x1005, 0}, {api.CallData, 9, 2, 0x13401003, 0}, {api.CallThread, 9, 1, 0x1000}, {api.CallThread, 9, 15, 0x1004}} {
		w.does(api.CodeOK, 0, call...)
	}
	for _, call := range [][]uint32{{9, 0x2003, 4}, {9, 0x3003, 1}, {9, 0x13405003, 4}, {9, 0x13406001, 1}, {9, 0x4001, 3}, {9, 0x13407003, 5}} {
		w.does(api.CodeOK, 0, append([]uint32{api.CallShare}, call...)...)
	}
	w.does(api.CodeOK, 0, api.CallSpare, 9, 5)
	w.does(api.CodeOK, 0, api.CallFinal, 9)
	w.does(api.CodeInterrupted, 12, api.CallEnter, 1, 3, 4, 5)
}

// third: the enclave of birth 3.
func (w world) third() {
	w.Helper()
	w.lay(0, "x: b al x")
	for _, call := range [][]uint32{{api.CallSpace, 12, 13}, {api.CallTable, 12, 14, 0}, {api.CallData, 12, 16, 0x1007, 0}, {api.CallShare, 12, 0x2003, 1}, {api.CallThread, 12, 19, 0x1000}, {api.CallData, 12, 21, 0x5003, 0}, {api.CallFinal, 12}} {
		w.does(api.CodeOK, 0, call...)
	}
	w.does(api.CodeInterrupted, 3, api.CallEnter, 19, 6, 7, 8)
	for _, call := range [][]uint32{{api.CallStop, 12}, {api.CallRemove, 13}, {api.CallRemove, 14}, {api.CallRemove, 16}} {
		w.does(api.CodeOK, 0, call...)
	}
}

// whole: the machine is valid.
func (w world) whole() {
	w.Helper()
	if clause, page := valid.Broken(w.m.DB()); clause != 0 {
		w.Fatalf("%s is not so at page %d", valid.Says(clause), page)
	}
}

// machineAsIs: all that a machine is, but for its meter.
func machineAsIs(m *monitor.Monitor) string {
	c := m.Config()
	text := fmt.Sprint(m.Registers(), m.Key(), m.DB().Words(), c.Secure, c.Insecure, c.Seed, c.Streams)
	return text
}

// unchanged: what is done leaves the machine as it was.
func (w world) unchanged(what string, do func()) {
	w.Helper()
	is, memory := machineAsIs(w.m), w.m.DB().Memory().Clone()
	do()
	if machineAsIs(w.m) != is || !w.m.DB().Memory().Same(memory) {
		w.Fatalf("P25.9: %s changes the machine", what)
	}
}

// held: of any birth, all calls answer as the plain ones do.
func (w world) held(birth int) {
	w.Helper()
	w.unchanged(fmt.Sprintf("looking at birth %d", birth), func() {
		w.heldOf(birth)
		w.heldReleased(birth, api.CodeInterrupted, 0x80000000)
	})
}

func (w world) heldOf(birth int) {
	w.Helper()
	got, want := view.Of(w.m, birth), plainOf(w.m, birth)
	if part := plainPart(got, want); part != "" {
		w.Fatalf("P25.1, P25.2: Of(%d): %s is not what it should be", birth, part)
	}
	page, e := view.Space(w.m, birth)
	if s := plainSpace(w.m.DB(), birth); page != max(s, 0) || (e == api.OK) != (s >= 0) || s < 0 && e != api.ErrNone {
		w.Fatalf("P25.4: Space(%d): %d, %d; want %d", birth, page, e, s)
	}
	w.seen[fmt.Sprint("Space ", e)]++
}

func (w world) heldReleased(birth int, code api.Code, value uint32) {
	w.Helper()
	got, e := view.Released(w.m, birth, code, value)
	want, wantE := plainReleased(w.m, birth, code, value)
	if e != wantE || !plainAlike(got, want) {
		w.Fatalf("P25.5: Released(%d): %d, %d, %d pages, %d metas, %v; want %d, %d pages, %d metas, %v", birth, e, got.Code, len(got.Pages), len(got.Metas), plainSeenParts(got.Metas, want.Metas), wantE, len(want.Pages), len(want.Metas), plainOpenParts(got.Pages, want.Pages))
	}
	w.seen[fmt.Sprint("Released ", e)]++
	if e == api.OK && len(got.Pages) > 0 {
		w.seen["Released pages"]++
	}
}

// plant: held against the plain one: the words that are to become others do, and nothing else is another's. nil with an error.
func (w world) plant(birth int, seed uint32, draws []uint32) (*monitor.Monitor, api.Errno) {
	w.Helper()
	var p *monitor.Monitor
	var e api.Errno
	w.unchanged("Plant", func() { p, e = view.Plant(w.m, birth, seed, draws) })
	want := plainRefusal(w.m, birth, draws)
	w.seen[fmt.Sprint("Plant ", want)]++
	if e != want || (p == nil) != (e != api.OK) {
		w.Fatalf("P25.6: Plant(%d, %d, %d draws): %v, %d; want %d", birth, seed, len(draws), p, e, want)
	}
	if e != api.OK {
		return nil, e
	}
	w.planted(p, birth, seed, draws)
	return p, e
}

// planted: is it the machine that Plant is to answer?
func (w world) planted(p *monitor.Monitor, birth int, seed uint32, draws []uint32) {
	w.Helper()
	c := w.m.Clone()
	for at, v := range plainPlant(c.DB(), birth, seed) {
		c.DB().Memory().Write(secure(at.page), at.off, v)
	}
	if !p.DB().Memory().Same(c.DB().Memory()) {
		w.Fatalf("P25.6: planted in birth %d: not the words that it should have: %s", birth, plainPart(plainOf(p, -1), plainOf(c, -1)))
	}
	if !slices.Equal(p.DB().Words(), c.DB().Words()) || p.Registers() != c.Registers() || p.Key() != c.Key() {
		w.Fatalf("P25.6: planted in birth %d: the entries %#x, the registers %#x, the key %#x", birth, p.DB().Words(), p.Registers(), p.Key())
	}
	got, was := p.Config(), w.m.Config()
	if !slices.EqualFunc(got.Streams, plainStreams(was.Streams, birth, draws), slices.Equal) || got.Secure != was.Secure || got.Insecure != was.Insecure || got.Seed != was.Seed {
		w.Fatalf("P25.6: planted in birth %d: the configuration is %+v; it was %+v", birth, got, was)
	}
	if clause, page := valid.Broken(p.DB()); clause != 0 {
		w.Fatalf("P25.7: planted in birth %d: %s is not so at page %d", birth, valid.Says(clause), page)
	}
	if part := view.Part(view.Of(w.m, birth), view.Of(p, birth)); part != "" || !view.Same(view.Of(w.m, birth), view.Of(p, birth)) {
		w.Fatalf("P25.7: planted in birth %d: seen otherwise: %s", birth, part)
	}
}
