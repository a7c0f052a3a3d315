package life_test

import (
	"testing"

	"warden/api"
	"warden/build"
	"warden/entry"
	"warden/life"
	"warden/pagedb"
)

// examples: the chapter's database.
func examples(t *testing.T) world {
	w := booted(t, 6, 1)
	w.born(0, 1)
	w.take(2, entry.Second, 0)
	w.take(3, entry.Data, 0)
	return w
}

func (w world) example1() {
	w.wants(api.CodeOK, of("Spare", 0, 4))
	w.entryIs(4, entry.Entry{Type: entry.Spare})
	w.entryIs(0, entry.Entry{Type: entry.Space, Refs: 4, State: entry.Init})
	w.wants(api.CodeUsed, of("Spare", 0, 4))
	w.wants(api.CodePage, of("Spare", 6, 9))
	w.wants(api.CodeSpace, of("Spare", 1, 4))
	w.wants(api.CodePage, of("Spare", 0, 6))
	w.wants(api.CodePage, of("Spare", 0, 0xffffffff))
}

func (w world) example2() {
	w.wants(api.CodeOK, of("Final", 0))
	w.wordsAre("P18.2", 0, 3, 0xe3b0c442, 0x98fc1c14, 0x9afbf4c8, 0x996fb924, 0x27ae41e4, 0x649b934c, 0xa495991b, 0x7852b855)
	w.wordsAre("P18.2", 0, 11, make([]uint32, 26)...)
	w.entryIs(0, entry.Entry{Type: entry.Space, Refs: 4, State: entry.Final})
	w.wants(api.CodeFinal, of("Final", 0))
	w.wants(api.CodeSpace, of("Final", 5))
	w.wants(api.CodeOK, of("Spare", 0, 5))
}

func (w world) example3() {
	w.wants(api.CodeNotStopped, of("Remove", 3))
	w.wants(api.CodeOK, of("Remove", 4))
	w.entryIs(4, entry.Entry{})
	w.wants(api.CodeFree, of("Remove", 4))
	w.wants(api.CodeNotStopped, of("Remove", 0))
	w.wants(api.CodePage, of("Remove", 6))
}

func (w world) example4() {
	w.wants(api.CodeOK, of("Stop", 0))
	w.wants(api.CodeOK, of("Stop", 0))
	w.wants(api.CodeStopped, of("Spare", 0, 4))
	w.wants(api.CodeFinal, of("Final", 0))
	w.plans(0, 1, 2, 3, 5, 0)
	w.wants(api.CodeHeld, of("Remove", 0))
	for _, page := range []uint32{1, 2, 3, 5, 0} {
		w.wants(api.CodeOK, of("Remove", page))
	}
	w.plans(0)
	w.plans(-1)
	w.plans(6)
	if w.d.Free() != 6 {
		w.Errorf("P18.6: %d pages are free", w.d.Free())
	}
}

func TestExamples(t *testing.T) {
	w := examples(t)
	w.example1()
	w.example2()
	w.example3()
	w.example4()
}

// refusing: how many of the calls that build answer CodeFinal of the space 0.
func refusing(d *pagedb.DB) (count int) {
	for _, code := range []api.Code{build.Thread(d, 0, 5, 0), build.Table(d, 0, 5, 1), build.Data(d, 0, 5, 0x4001, 0), build.Share(d, 0, 0x4001, 0)} {
		if code == api.CodeFinal {
			count++
		}
	}
	return count
}

// The last example of chapter 17: the measurement of what was built; nothing is built behind Final, or behind Stop.
func TestBuiltAndClosed(t *testing.T) {
	for _, final := range []bool{true, false} {
		w := booted(t, 8, 4)
		for off := range 1024 {
			w.d.Memory().Write(insecure(0), off, uint32(off)<<20|7)
		}
		for i, code := range []api.Code{build.Space(w.d, 0, 1), build.Thread(w.d, 0, 2, 0x1003), build.Table(w.d, 0, 3, 0), build.Data(w.d, 0, 4, 0x1007, 0), build.Share(w.d, 0, 0x2003, 1), build.Share(w.d, 0, 0x3003, 1)} {
			if code != api.CodeOK {
				t.Fatalf("building, %d: %d", i, code)
			}
		}
		list := append([]uint32{1, 0x1003, 2, 0, 3, 0x1007}, told(w.d).insecure[0]...)
		sum := librarySum(append(list, 4, 0x2003, 4, 0x3003)...)
		if final {
			w.wants(api.CodeOK, of("Final", 0))
			w.wordsAre("P18.2", 0, entry.SpaceMeasure, sum[:]...)
			if refusing(w.d) != 4 {
				t.Error("P18.2: a final space is built further")
			}
		}
		w.wants(api.CodeOK, of("Stop", 0))
		if refusing(w.d) != 4 {
			t.Error("P18.3: a stopped space is built further")
		}
	}
}

// One list of pages is not another one's, nor the database's.
func TestPlanIsNewMemory(t *testing.T) {
	w := examples(t)
	one, two := life.Plan(w.d, 0), life.Plan(w.d, 0)
	for _, list := range [][]int{one, one[:cap(one)]} {
		for i := range list {
			list[i] = 77
		}
	}
	one = append(one, 78)
	if len(two) != 4 || two[0] != 1 || two[3] != 0 || len(one) != 5 {
		t.Errorf("rule 5: two plans share memory: %v", two)
	}
	w.plans(0, 1, 2, 3, 0)
}
