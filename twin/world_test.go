package twin_test

import (
	"fmt"
	"slices"
	"testing"

	"warden/api"
	"warden/asm"
	"warden/monitor"
	"warden/twin"
	"warden/valid"
)

func secure(page int) api.Frame { return api.Frame{Secure: true, Page: page} }

func insecure(page int) api.Frame { return api.Frame{Page: page} }

func seed() [8]uint32 { return [8]uint32{1, 2, 3, 0x80000004, 5, 6, 7, 0xfffffff8} }

// world: a machine; each call of the package is held against the plain one.
type world struct {
	*testing.T
	m    *monitor.Monitor
	seen map[string]int // how often each kind of answer came
}

func booted(t *testing.T, secure, insecure int, streams ...[]uint32) world {
	t.Helper()
	m, e := monitor.New(monitor.Config{Secure: secure, Insecure: insecure, Seed: seed(), Streams: streams})
	if e != api.OK {
		t.Fatalf("monitor.New of %d and %d pages: %d", secure, insecure, e)
	}
	return world{t, m, map[string]int{}}
}

// does: a call that answers this.
func (w world) does(code api.Code, fuel int, words ...uint32) uint32 {
	w.Helper()
	r := append(words, 0, 0, 0, 0)
	got, value := w.m.Do(r[0], r[1], r[2], r[3], r[4], fuel)
	if got != code {
		w.Fatalf("the call %v: %d; want %d", words, got, code)
	}
	return value
}

func (w world) write(page, off int, v uint32) {
	w.Helper()
	if e := w.m.Write(page, off, v); e != api.OK {
		w.Fatalf("Write(%d, %d): %d", page, off, e)
	}
}

// lay: a program's words in an insecure page.
func (w world) lay(page int, source string) {
	w.Helper()
	words, fault := asm.Assemble(source, 0x1000)
	if fault.Err != api.OK {
		w.Fatalf("%q: %+v", source, fault)
	}
	for off, v := range words {
		w.write(page, off, v)
	}
}

// raise: an enclave in the pages from home on, in their order: its space, its table of the first level, one of the second, its program at 0x1000, its data at 0x2000, a thread, a spare page. At 0x3000 it may read and write the insecure page shared. Its data begin with the word. Page 0 of the insecure ones is used for that.
func (w world) raise(home uint32, source string, shared, word uint32) {
	w.Helper()
	w.build(home, source, shared, word)
	w.does(api.CodeOK, 0, api.CallFinal, home)
}

// build: the same, but that its building hasn't ended.
func (w world) build(home uint32, source string, shared, word uint32) {
	w.Helper()
	w.lay(0, source)
	w.does(api.CodeOK, 0, api.CallSpace, home, home+1)
	w.does(api.CodeOK, 0, api.CallTable, home, home+2, 0)
	w.does(api.CodeOK, 0, api.CallData, home, home+3, 0x1005, 0)
	w.write(0, 0, word)
	w.does(api.CodeOK, 0, api.CallData, home, home+4, 0x2003, 0)
	w.does(api.CodeOK, 0, api.CallThread, home, home+5, 0x1000)
	w.does(api.CodeOK, 0, api.CallSpare, home, home+6)
	w.does(api.CodeOK, 0, api.CallShare, home, 0x3003, shared)
}

// Of an enclave that is raised in the pages from 0 on.
const (
	dataPage   = 4
	threadPage = 5
	sparePage  = 6
)

// with: a machine like this one, on which a word of a secure page is another one. Nothing of that is asked to be valid.
func (w world) with(page, off int, v uint32) *monitor.Monitor {
	w.Helper()
	c := w.m.Clone()
	if e := c.DB().Memory().Write(secure(page), off, v); e != api.OK {
		w.Fatalf("the word %d of page %d: %d", off, page, e)
	}
	return c
}

// secrets: two machines with one enclave of birth 0 that runs this program, which holds 5 on the first and 6 on the second one.
func secrets(t *testing.T, source string) (world, *monitor.Monitor) {
	t.Helper()
	w := booted(t, 16, 4)
	w.raise(0, source, 1, 5)
	return w, w.with(dataPage, 0, 6)
}

// entered, resumed: the steps that run the thread of a page.
func entered(page uint32, fuel int) twin.Step {
	return twin.Step{Kind: twin.Call, V: api.CallEnter, A: page, Fuel: fuel}
}

func resumed(page uint32, fuel int) twin.Step {
	return twin.Step{Kind: twin.Call, V: api.CallResume, A: page, Fuel: fuel}
}

func called(words ...uint32) twin.Step {
	r := append(words, 0, 0, 0, 0)
	return twin.Step{Kind: twin.Call, V: r[0], A: r[1], B: r[2], C: r[3], D: r[4]}
}

// town: enclaves of all kinds beside one another: birth 0 was removed; 1 is final, at home in page 0, its thread isn't interrupted; 2 is final, at home in page 7, its thread is interrupted; 3 is being built, at home in page 14; 4 was stopped while its thread was interrupted, at home in page 21; page 28 on are free.
func town(t *testing.T) world {
	t.Helper()
	w := booted(t, 32, 4, []uint32{70}, []uint32{71, 72, 73}, nil, []uint32{}, []uint32{74})
	w.does(api.CodeOK, 0, api.CallSpace, 0, 1)
	for _, call := range [][]uint32{{api.CallStop, 0}, {api.CallRemove, 1}, {api.CallRemove, 0}} {
		w.does(api.CodeOK, 0, call...)
	}
	w.raise(0, "movi r2 0x2000\nldr r0 r2 0\nsvc 0", 1, 11)
	w.raise(7, "movi r2 0x3000\nx: svc 6\nstr r1 r2 0\nb al x", 2, 12)
	w.build(14, "svc 0", 1, 13)
	w.raise(21, "x: b al x", 3, 14)
	w.does(api.CodeInterrupted, 9, api.CallEnter, 12, 1, 2, 3)
	w.does(api.CodeInterrupted, 9, api.CallEnter, 26, 1, 2, 3)
	w.does(api.CodeOK, 0, api.CallStop, 21)
	w.m.SetRegister(14, 0x80000000)
	w.whole(w.m)
	return w
}

// whole: the machine is valid.
func (w world) whole(m *monitor.Monitor) {
	w.Helper()
	if clause, page := valid.Broken(m.DB()); clause != 0 {
		w.Fatalf("%s is not so at page %d", valid.Says(clause), page)
	}
}

// asIs: all that a machine is, but for its pages' words: its meter too.
func asIs(m *monitor.Monitor) string {
	c := m.Config()
	return fmt.Sprint(m.Registers(), m.Key(), m.DB().Words(), c.Secure, c.Insecure, c.Seed, c.Streams, m.Meter())
}

// unchanged: what is done leaves the machines as they were.
func (w world) unchanged(what string, do func(), machines ...*monitor.Monitor) {
	w.Helper()
	var was []*monitor.Monitor
	for _, m := range machines {
		was = append(was, m.Clone())
	}
	do()
	for k, m := range machines {
		if asIs(m) != asIs(was[k]) || !m.DB().Memory().Same(was[k].DB().Memory()) {
			w.Fatalf("P26.6: %s changes the machine %d", what, k)
		}
	}
}

// same: two machines are the same in all, the meter too.
func (w world) same(what string, a, b *monitor.Monitor) {
	w.Helper()
	if asIs(a) != asIs(b) || !a.DB().Memory().Same(b.DB().Memory()) {
		w.Fatalf("%s: the machines part", what)
	}
}

// step: one on the machine, held against the plain one.
func (w world) step(s twin.Step) twin.Row {
	w.Helper()
	c := w.m.Clone()
	want := plainDo(c, s)
	if got := twin.Do(w.m, s); got != want {
		w.Fatalf("P26.1: Do(%+v) = %+v; want %+v", s, got, want)
	}
	w.same("P26.1: Do", w.m, c)
	w.seen[fmt.Sprint("Do ", want.Err)]++
	return want
}

// runs: held against the plain one.
func (w world) runs(s twin.Step, birth int) bool {
	w.Helper()
	want := plainRuns(w.m, s, birth)
	w.unchanged("Runs", func() {
		if got := twin.Runs(w.m, s, birth); got != want {
			w.Fatalf("P26.2: Runs(%+v, %d) = %v; want %v", s, birth, got, want)
		}
	}, w.m)
	w.seen[fmt.Sprint("Runs ", want)]++
	return want
}

// trace: held against the plain one.
func (w world) trace(steps []twin.Step) {
	w.Helper()
	want, wantE := plainTrace(w.m, steps)
	w.unchanged("Trace", func() {
		got, e := twin.Trace(w.m, steps)
		if e != wantE || !slices.Equal(got, want) {
			w.Fatalf("P26.4: Trace of %d steps: %v, %d; want %v, %d", len(steps), got, e, want, wantE)
		}
	}, w.m)
}

// held: the machine and another one under one script: Compare and Least answer as the plain ones do.
func (w world) held(other *monitor.Monitor, birth int, steps []twin.Step) (twin.Report, api.Errno) {
	w.Helper()
	want, wantE := plainCompare(w.m, other, birth, steps)
	least := steps
	switch {
	case wantE != api.OK:
		least = nil
	case want.End != twin.Through:
		least = steps[:want.Step+1]
	}
	w.unchanged("Compare or Least", func() {
		if got, e := twin.Compare(w.m, other, birth, steps); got != want || e != wantE {
			w.Fatalf("P26.3: Compare, birth %d, %d steps: %+v, %d; want %+v, %d", birth, len(steps), got, e, want, wantE)
		}
		if got, e := twin.Least(w.m, other, birth, steps); !slices.Equal(got, least) || e != wantE {
			w.Fatalf("P26.5: Least, birth %d, %d steps: %d steps, %d; want %d, %d", birth, len(steps), len(got), e, len(least), wantE)
		}
	}, w.m, other)
	w.seen[fmt.Sprint("Compare ", int(want.End), " ", wantE)]++
	return want, wantE
}

// ends: it ends so, without an error.
func (w world) ends(what string, other *monitor.Monitor, birth int, steps []twin.Step, want twin.Report) {
	w.Helper()
	if got, e := w.held(other, birth, steps); got != want || e != api.OK {
		w.Errorf("%s: %+v, %d; want %+v", what, got, e, want)
	}
}
