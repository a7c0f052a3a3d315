package build_test

import (
	"testing"

	"warden/api"
	"warden/entry"
	"warden/measure"
	"warden/space"
	"warden/walk"
)

func (w world) entryIs(page int, want entry.Entry) {
	w.Helper()
	if e, _ := w.d.Entry(page); e != want {
		w.Errorf("page %d is %+v; want %+v", page, e, want)
	}
}

func (w world) mapped(va uint32, want walk.Map) {
	w.Helper()
	if m, e := space.At(w.d, 0, va); m != want || e != api.OK {
		w.Errorf("at %#x is %+v, %d; want %+v", va, m, e, want)
	}
}

func (w world) example1() {
	w.wants(api.CodePage, of("Space", 0, 8))
	w.wants(api.CodePage, of("Space", 8, 8))
	w.wants(api.CodeArg, of("Space", 3, 3))
	w.wants(api.CodeOK, of("Space", 0, 1))
	w.entryIs(0, entry.Entry{Type: entry.Space, Refs: 1, State: entry.Init})
	w.entryIs(1, entry.Entry{Type: entry.First})
	w.wants(api.CodeUsed, of("Space", 2, 1))
	w.wants(api.CodeUsed, of("Space", 0, 2))
	w.wants(api.CodePage, of("Space", 0xffffffff, 0))
}

func (w world) example2() {
	w.wants(api.CodeSpace, of("Thread", 1, 2, 0))
	w.wants(api.CodePage, of("Thread", 9, 2, 0))
	w.wants(api.CodeUsed, of("Thread", 0, 0, 0))
	w.wants(api.CodeOK, of("Thread", 0, 2, 0x1003))
	if v := w.d.Memory().Peek(secure(2), 0); v != 0x1003 {
		w.Errorf("P17.3: the word 0 of page 2 is %#x", v)
	}
}

func (w world) example3() {
	w.wants(api.CodeArg, of("Table", 0, 3, 256))
	w.wants(api.CodeArg, of("Table", 0, 2, 256))
	w.wants(api.CodeUsed, of("Table", 0, 2, 0))
	w.wants(api.CodeOK, of("Table", 0, 3, 0))
	w.wants(api.CodeAddress, of("Table", 0, 4, 0))
	w.entryIs(4, entry.Entry{})
}

func (w world) example4() {
	w.wants(api.CodeMapping, of("Data", 0, 4, 0x1000, 0))
	w.wants(api.CodeInsecure, of("Data", 0, 4, 0x1007, 4))
	w.wants(api.CodeUsed, of("Data", 0, 3, 0x1007, 0))
	w.wants(api.CodeTable, of("Data", 0, 4, 0x400001, 0))
	w.wants(api.CodeOK, of("Data", 0, 4, 0x1007, 0))
	w.wants(api.CodeAddress, of("Data", 0, 5, 0x1001, 0))
	w.mapped(0x1000, walk.Map{Frame: secure(4), Write: true, Exec: true})
}

func (w world) example5() {
	w.wants(api.CodeMapping, of("Share", 0, 0x2005, 0))
	w.wants(api.CodeOK, of("Share", 0, 0x2003, 1))
	w.wants(api.CodeOK, of("Share", 0, 0x3003, 1))
	w.wants(api.CodeAddress, of("Share", 0, 0x1003, 2))
	w.mapped(0x2000, walk.Map{Frame: insecure(1), Write: true})
	w.mapped(0x3000, walk.Map{Frame: insecure(1), Write: true})
}

// closed: each call that builds is refused, whatever else is wrong with it.
func (w world) closed() {
	w.Helper()
	for _, c := range []call{
		of("Thread", 0, 5, 0), of("Table", 0, 5, 1), of("Data", 0, 5, 0x4001, 0), of("Share", 0, 0x4001, 0),
		of("Thread", 0, 99, 0), of("Table", 0, 2, 256), of("Data", 0, 99, 0, 99), of("Share", 0, 0, 99),
	} {
		if got := w.do(c); got != api.CodeFinal {
			w.Errorf("P17.2: %v = %d; want %d", c, got, api.CodeFinal)
		}
	}
}

func TestExamples(t *testing.T) {
	w := booted(t, 8, 4)
	w.fill(0, 0x80000007)
	w.example1()
	w.example2()
	w.example3()
	w.example4()
	w.example5()
	words := w.p.insecure[0]
	list := []measure.Op{{Kind: measure.Thread, Arg: 0x1003}, {Kind: measure.Table}, {Kind: measure.Data, Arg: 0x1007, Words: words}, {Kind: measure.Share, Arg: 0x2003}, {Kind: measure.Share, Arg: 0x3003}}
	if want, e := measure.Measure(list); e != api.OK || w.finish(0) != want {
		t.Errorf("P17.8: the measurement is %08x; want %08x", w.finish(0), want)
	}
	w.final(0)
	w.closed()
	w.setState(0, entry.Stopped)
	w.closed()
}
