package svc_test

import (
	"testing"

	"warden/api"
	"warden/entry"
	"warden/regs"
	"warden/space"
	"warden/walk"
)

// examples: the chapter's enclave.
func examples(t *testing.T) world {
	t.Helper()
	w := booted(t, 8, 2)
	w.ok("TakeSpace", w.d.TakeSpace(0, 1))
	w.take(2, entry.Second, 0)
	w.take(3, entry.Data, 0)
	w.take(4, entry.Spare, 0)
	w.take(5, entry.Thread, 0)
	w.ok("AddTable", space.AddTable(w.d, 0, 0, 2))
	w.ok("Put", space.Put(w.d, 0, 0x1000, walk.Map{Frame: secure(3), Write: true}))
	w.lay(0, entry.SpaceMeasure, 0xdeadbeef, 101, 102, 103, 104, 105, 106, 0xffffffff)
	w.ok("SetState", w.d.SetState(0, entry.Final))
	w.valid()
	return w
}

func TestExample1(t *testing.T) {
	w := examples(t)
	f := file(1, 2)
	f.R[0] = 42
	if r := w.do(5, api.SvcExit, f); r != (result{file: f, exit: true, value: 42}) {
		t.Errorf("P19.3: SvcExit: %+v", r)
	}
	for _, n := range []uint32{8, 9, 255, 256, 257, 65535, 65536, 65537, 1 << 31, 1<<31 + 3, 0xffffffff} {
		w.wants(api.CodeCall, 5, n, 4, 0x5003)
	}
	if api.CodeCall != 15 {
		t.Error("CodeCall is another one")
	}
}

func TestExample2(t *testing.T) {
	w := examples(t)
	for i, want := range []uint32{7, 9, 0} {
		if f := w.wants(api.CodeOK, 5, api.SvcRandom, 1, 2); f.R[1] != want {
			t.Errorf("P19.3: draw %d is %d; want %d", i, f.R[1], want)
		}
		w.wordIs(0, entry.SpaceDraws, uint32(i+1))
	}
	w.lay(0, entry.SpaceDraws, 4096)
	if f := w.wants(api.CodeOK, 5, api.SvcRandom, 1, 2); f.R[1] != 0 {
		t.Errorf("P19.3: the draw behind the last is %d", f.R[1])
	}
	w.wordIs(0, entry.SpaceDraws, 4096)
}

func TestExamples3And4(t *testing.T) {
	w := examples(t)
	for _, r1 := range []uint32{3, 9, 0xffffffff} {
		for _, r2 := range []uint32{0x5003, 0x5002, 0x400001, 0x1001} {
			w.wants(api.CodeSpare, 5, api.SvcMap, r1, r2)
		}
	}
	w.wants(api.CodeMapping, 5, api.SvcMap, 4, 0x5002)
	w.wants(api.CodeTable, 5, api.SvcMap, 4, 0x400001)
	w.wants(api.CodeAddress, 5, api.SvcMap, 4, 0x1001)
	w.wants(api.CodeOK, 5, api.SvcMap, 4, 0x5003)
	w.entryIs(4, entry.Entry{Type: entry.Data})
	if at, e := space.At(w.d, 0, 0x5000); e != api.OK || at != (walk.Map{Frame: secure(4), Write: true}) {
		t.Errorf("P19.4: at 0x5000 is %+v, %d", at, e)
	}
	w.valid()
	w.fill(secure(4), 5)
	w.wants(api.CodeAddress, 5, api.SvcUnmap, 4, 0x5001)
	w.wants(api.CodeAddress, 5, api.SvcUnmap, 4, 0x1003)
	w.wants(api.CodeOK, 5, api.SvcUnmap, 4, 0x5003)
	w.entryIs(4, entry.Entry{Type: entry.Spare})
	w.isZero(4)
	w.wants(api.CodeData, 5, api.SvcUnmap, 4, 0x5003)
	w.valid()
}

func TestExample5(t *testing.T) {
	w := examples(t)
	w.wants(api.CodeAddress, 5, api.SvcTable, 4, 0)
	w.wants(api.CodeArg, 5, api.SvcTable, 4, 256)
	w.wants(api.CodeOK, 5, api.SvcTable, 4, 5)
	w.entryIs(4, entry.Entry{Type: entry.Second})
	w.wordIs(1, 5, 0x401)
	w.isZero(4)
	w.valid()
}

func TestExample6(t *testing.T) {
	w := examples(t)
	f := file(1, 2)
	copy(f.R[1:], []uint32{1, 2, 3, 4, 5, 6, 7, 8})
	g := w.do(5, api.SvcAttest, f).file
	own := []uint32{0xdeadbeef, 101, 102, 103, 104, 105, 106, 0xffffffff}
	key := bootKey()
	if g.R[0] != 0 || [8]uint32(g.R[1:9]) != [8]uint32(libraryTag(key[:], own, []uint32{1, 2, 3, 4, 5, 6, 7, 8})) {
		t.Errorf("P19.3: SvcAttest: %#x", g.R)
	}
	w.layAt(1, 0x1000, own...)
	w.layAt(1, 0x1020, 1, 2, 3, 4, 5, 6, 7, 8)
	w.layAt(1, 0x1040, g.R[1:9]...)
	w.verifies(0x1000, 1)
	for bit := range 24 * 32 {
		off := bit / 32
		was := w.d.Memory().Peek(secure(3), off)
		w.lay(3, off, was^1<<(bit%32))
		w.verifies(0x1000, 0)
		w.lay(3, off, was)
	}
	w.verifies(0x1000, 1)
	w.wants(api.CodeMemory, 5, api.SvcVerify, 0x1fa4, 2)
	w.wants(api.CodeMemory, 5, api.SvcVerify, 0x1002, 2)
}

func TestExample7(t *testing.T) {
	w := examples(t)
	none := result{e: api.ErrType}
	for _, page := range []int{0, 9} {
		if r := w.do(page, api.SvcExit, file(1, 2)); r != none {
			t.Errorf("P19.3: Do of page %d: %+v", page, r)
		}
	}
	w.ok("SetState", w.d.SetState(0, entry.Stopped))
	if r := w.do(5, api.SvcExit, file(1, 2)); r != none {
		t.Errorf("P19.3: of a stopped space: %+v", r)
	}
	w = booted(t, 4, 1)
	w.ok("TakeSpace", w.d.TakeSpace(0, 1))
	w.take(2, entry.Thread, 0)
	if r := w.do(2, api.SvcExit, regs.File{}); r != none {
		t.Errorf("P19.3: of a space that is being built: %+v", r)
	}
}

// verifies: SvcVerify of the words at an address of the thread in page 5.
func (w world) verifies(va, want uint32) {
	w.Helper()
	f := file(va, 2)
	g := w.wants(api.CodeOK, 5, api.SvcVerify, va, 2)
	f.R[0], f.R[1] = 0, want
	if g != f {
		w.Fatalf("P19.3: SvcVerify at %#x: %+v; want %+v", va, g, f)
	}
}
