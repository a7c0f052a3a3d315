package svc_test

import (
	"testing"

	"warden/api"
	"warden/entry"
	"warden/space"
	"warden/walk"
)

// numbers: every page of the machine of two, and words that are no page's, some with a page's number in their lower bits.
func numbers() []uint32 {
	list := []uint32{18, 19, 63, 64, 0x106, 0x104, 0x10006, 0x7fffffff, 0x80000006, 0x80000004, 0xffffff06, 0xffffffff}
	for page := range uint32(18) {
		list = append(list, page)
	}
	return list
}

// sweep: a call with each r1 and each r2, of both threads, each over the same machine: the first of its codes that applies.
func sweep(t *testing.T, base world, n uint32, seconds []uint32, codes ...api.Code) {
	t.Helper()
	w := base
	w.d = base.d.Clone()
	for _, thread := range []int{7, 15} {
		for _, r1 := range numbers() {
			for _, r2 := range seconds {
				if w.do(thread, n, file(r1, r2)).file.R[0] == 0 {
					w.valid()
					w.d = base.d.Clone()
				}
			}
		}
	}
	want := []int{}
	for _, code := range codes {
		want = append(want, int(code))
	}
	w.allSeen(n, want...)
}

func TestMapCodes(t *testing.T) {
	mappings := []uint32{0, 2, 0x5002, 0x5008, 0x5009, 0x500b, 0x5801, 0x40000001, 0x40005003, 0x80005003, 0xffffffff, 0x400001, 0x800003, 0x3f800001, 0x1001, 0x1003, 0x2005, 0x3003, 1, 0x5001, 0x5003, 0x5005, 0x5007, 0x3ff003, 0x3fc00001, 0x3ffff007}
	sweep(t, two(t), api.SvcMap, mappings, api.CodeOK, api.CodeSpare, api.CodeMapping, api.CodeTable, api.CodeAddress)
}

func TestUnmapCodes(t *testing.T) {
	mappings := []uint32{0, 0x1002, 0x1000, 0x1009, 0x1803, 0x40001003, 0x80001003, 0xffffffff, 0x401003, 0x3f800001, 0x1001, 0x1003, 0x1005, 0x1007, 0x2001, 0x2003, 0x2005, 0x2007, 0x3001, 0x3003, 0x3005, 0x4003, 1, 0x3fc01003}
	sweep(t, two(t), api.SvcUnmap, mappings, api.CodeOK, api.CodeData, api.CodeMapping, api.CodeTable, api.CodeAddress)
}

func TestTableCodes(t *testing.T) {
	indices := []uint32{0, 1, 5, 128, 254, 255, 256, 257, 511, 1023, 1024, 0x100, 0x10001, 0x80000005, 0xffffff05, 0xffffffff}
	sweep(t, two(t), api.SvcTable, indices, api.CodeOK, api.CodeSpare, api.CodeArg, api.CodeAddress)
}

// A page may come at every index at which there is none, and is gone from there no more.
func TestTableAtEveryIndex(t *testing.T) {
	for index := uint32(1); index < 255; index++ {
		w := two(t)
		w.wants(api.CodeOK, 7, api.SvcTable, 6, index)
		w.wordIs(1, int(index), 0x601)
		w.entryIs(6, entry.Entry{Type: entry.Second})
		w.wants(api.CodeSpare, 7, api.SvcTable, 6, index)
		w.valid()
	}
}

// What the mapping word says is what may be done there; just that can be taken back.
func TestEveryPermission(t *testing.T) {
	for bits := range uint32(4) {
		w := two(t)
		mapping := 0x3fc07001 + 2*bits
		w.wants(api.CodeOK, 7, api.SvcMap, 6, mapping)
		if at, e := space.At(w.d, 0, 0x3fc07000); e != api.OK || at != (walk.Map{Frame: secure(6), Write: bits%2 == 1, Exec: bits >= 2}) {
			t.Errorf("P19.4: SvcMap with %#x: %+v, %d", mapping, at, e)
		}
		w.valid()
		for other := range uint32(4) {
			if other != bits {
				w.wants(api.CodeAddress, 7, api.SvcUnmap, 6, 0x3fc07001+2*other)
			}
		}
		w.wants(api.CodeOK, 7, api.SvcUnmap, 6, mapping)
		w.valid()
	}
}

// Pages are wiped, whoever wrote into them; a spare page too, though it should be zero already.
func TestPagesAreWiped(t *testing.T) {
	for _, n := range []uint32{api.SvcMap, api.SvcTable} {
		w := two(t)
		w.fill(secure(6), 3)
		w.wants(api.CodeOK, 7, n, 6, map[uint32]uint32{api.SvcMap: 0x7003, api.SvcTable: 9}[n])
		w.isZero(6)
	}
	w := two(t)
	w.wants(api.CodeOK, 7, api.SvcUnmap, 4, 0x1003)
	w.isZero(4)
	w.wordIs(2, 1, 0)
}

// A page goes round: data, spare, a table, under which it maps another one; what is unmapped at one place may come at another.
func TestPagesGoRound(t *testing.T) {
	w := two(t)
	for i := range uint32(5) {
		w.wants(api.CodeOK, 7, api.SvcMap, 6, 0x10003+i<<12)
		w.wants(api.CodeOK, 7, api.SvcUnmap, 6, 0x10003+i<<12)
	}
	w.wants(api.CodeOK, 7, api.SvcUnmap, 4, 0x1003)
	w.wants(api.CodeTable, 7, api.SvcMap, 4, 0x1c05005)
	w.wants(api.CodeOK, 7, api.SvcTable, 6, 7)
	w.wants(api.CodeOK, 7, api.SvcMap, 4, 0x1c05005)
	w.wordIs(6, 5, 0x40b)
	w.wants(api.CodeOK, 7, api.SvcUnmap, 4, 0x1c05005)
	w.valid()
}

// A place that holds what is no descriptor, or one of another page of that number, is neither free nor that page's.
func TestAnyWordsAtThePlace(t *testing.T) {
	for _, word := range []uint32{1, 2, 0x403, 0x40f, 0x40b, 0x405, 0x507, 0x417, 0x4407, 0x10407, 0x80000407, 0xffffffff} {
		w := two(t)
		w.lay(2, 1, word)
		w.wants(api.CodeAddress, 7, api.SvcMap, 6, 0x1003)
		w.wants(api.CodeAddress, 7, api.SvcUnmap, 4, 0x1003)
	}
	for _, word := range []uint32{2, 0x600, 0x601, 0xffffffff} {
		w := two(t)
		w.lay(1, 9, word)
		w.wants(api.CodeAddress, 7, api.SvcTable, 6, 9)
		w.wants(api.CodeTable, 7, api.SvcMap, 6, 9<<22+1)
		w.wants(api.CodeTable, 7, api.SvcUnmap, 4, 9<<22+1)
	}
}

// A table of another space's, or one that is of another type, is none; nor is a page of another space's its own, be it named or mapped here.
func TestWhatIsNotItsOwn(t *testing.T) {
	for _, word := range []uint32{0xa01, 0x401, 0x101, 0x1001, 0x1201} {
		w := two(t)
		w.lay(1, 0, word)
		w.wants(api.CodeTable, 7, api.SvcMap, 6, 0x5003)
		w.wants(api.CodeTable, 7, api.SvcUnmap, 4, 0x1003)
	}
	w := two(t)
	w.lay(2, 9, 0xc07)
	w.wants(api.CodeData, 7, api.SvcUnmap, 12, 0x9003)
	w.wants(api.CodeSpare, 7, api.SvcMap, 14, 0xa003)
	w.wants(api.CodeSpare, 7, api.SvcTable, 14, 9)
}

// A page that is mapped twice, past the face, is taken out of the one place that is named.
func TestOnePageAtTwoPlaces(t *testing.T) {
	w := two(t)
	w.lay(2, 9, 0x407)
	w.wants(api.CodeOK, 7, api.SvcUnmap, 4, 0x9003)
	w.wordIs(2, 1, 0x407)
	w.wordIs(2, 9, 0)
	w.wants(api.CodeData, 7, api.SvcUnmap, 4, 0x1003)
	w.wants(api.CodeAddress, 7, api.SvcMap, 4, 0x1003)
}

// The last pages of the greatest machine have numbers as good as the first ones'.
func TestGreatestMachine(t *testing.T) {
	w := enclaves(t, 64, 64, 56)
	w.wants(api.CodeSpare, 63, api.SvcMap, 64, 0x5003)
	w.wants(api.CodeOK, 63, api.SvcMap, 62, 0x3ffff007)
	w.wordIs(59, 1023, 0x3e0f)
	w.wants(api.CodeOK, 63, api.SvcUnmap, 62, 0x3ffff007)
	w.wants(api.CodeOK, 63, api.SvcTable, 62, 254)
	w.wordIs(57, 254, 0x3e01)
	w.wants(api.CodeOK, 63, api.SvcUnmap, 60, 0x1003)
	w.wants(api.CodeOK, 63, api.SvcMap, 60, 254<<22+0x7005)
	w.wordIs(62, 7, 0x3c0b)
	w.valid()
}
