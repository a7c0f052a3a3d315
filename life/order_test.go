package life_test

import (
	"testing"

	"warden/api"
	"warden/entry"
)

// none: words that are no page's where there are so many; some have a page's number in their lower bits.
func none(pages uint32) []uint32 {
	return []uint32{pages, pages + 1, 63, 64, 0x100, 0x101, 0x10000, 0x10002, 0x7fffffff, 0x80000000, 0x80000002, 0xffffff00, 0xfffffff0, 0xffffffff}
}

// pages: words of every kind, for a machine of 26 pages: those that are none's, and all that there are.
func pages() []uint32 {
	list := none(26)
	for page := range uint32(26) {
		list = append(list, page)
	}
	return list
}

// states: a machine of 26 pages with a space of each state at 0, 8 and 16, each with its table behind it, and a thread, an entered thread, a second-level table, data and two spare pages behind that; the pages 24 and 25 are free. All pages of spaces hold words.
func states(t *testing.T) world {
	w := booted(t, 26, 1)
	for _, space := range []int{0, 8, 16} {
		w.born(space, space+1)
		for i, of := range []entry.Type{entry.Thread, entry.Thread, entry.Second, entry.Data, entry.Spare, entry.Spare} {
			w.take(space+2+i, of, space)
		}
		for page := space + 1; page < space+8; page++ {
			w.fill(page, uint32(page))
		}
		w.ok("SetEntered", w.d.SetEntered(space+3, true))
	}
	w.wants(api.CodeOK, of("Final", 8))
	w.wants(api.CodeOK, of("Stop", 16))
	return w
}

// sweep: a call with each of these arguments, over the same machine: it answers the first of its codes that applies. Just these codes must come.
func sweep(t *testing.T, name string, all [][]uint32, codes ...api.Code) {
	t.Helper()
	w, seen := states(t), map[api.Code]int{}
	for _, args := range all {
		code := w.do(of(name, args...))
		seen[code]++
		if code == api.CodeOK {
			w = states(t)
		}
	}
	for _, code := range codes {
		if seen[code] == 0 {
			t.Errorf("%s never answers %d here", name, code)
		}
	}
	if len(seen) != len(codes) {
		t.Errorf("%s answers %v here; want %v", name, seen, codes)
	}
}

func single() (all [][]uint32) {
	for _, page := range pages() {
		all = append(all, []uint32{page})
	}
	return all
}

func TestSpareCodes(t *testing.T) {
	var all [][]uint32
	for _, space := range pages() {
		for _, page := range []uint32{26, 0xffffffff, 0x80000018, 0, 1, 8, 13, 16, 22, 24, 25, space} {
			all = append(all, []uint32{space, page})
		}
	}
	sweep(t, "Spare", all, api.CodeOK, api.CodePage, api.CodeSpace, api.CodeStopped, api.CodeUsed)
}

func TestFinalCodes(t *testing.T) {
	sweep(t, "Final", single(), api.CodeOK, api.CodePage, api.CodeSpace, api.CodeFinal)
}

func TestStopCodes(t *testing.T) {
	sweep(t, "Stop", single(), api.CodeOK, api.CodePage, api.CodeSpace)
}

func TestRemoveCodes(t *testing.T) {
	sweep(t, "Remove", single(), api.CodeOK, api.CodePage, api.CodeFree, api.CodeNotStopped, api.CodeHeld)
}

// What each page of the machine answers to Remove, told here page by page.
func TestRemoveByTypeAndState(t *testing.T) {
	for space, wanted := range map[uint32]api.Code{0: api.CodeNotStopped, 8: api.CodeNotStopped, 16: api.CodeOK} {
		for page := space + 1; page < space+6; page++ {
			states(t).wants(wanted, of("Remove", page))
		}
		states(t).wants(api.CodeOK, of("Remove", space+6))
		states(t).wants(api.CodeOK, of("Remove", space+7))
	}
	states(t).wants(api.CodeNotStopped, of("Remove", 0))
	states(t).wants(api.CodeNotStopped, of("Remove", 8))
	states(t).wants(api.CodeHeld, of("Remove", 16))
	states(t).wants(api.CodeFree, of("Remove", 24))
}

// A space that isn't stopped may own no page (its table given back past these calls): it isn't removed.
func TestRemoveOfBareSpaces(t *testing.T) {
	for _, final := range []bool{false, true} {
		w := booted(t, 3, 1)
		w.born(2, 1)
		w.ok("Give", w.d.Give(1))
		if final {
			w.wants(api.CodeOK, of("Final", 2))
		}
		w.wants(api.CodeNotStopped, of("Remove", 2))
		w.plans(2, 2)
		w.wants(api.CodeOK, of("Stop", 2))
		w.wants(api.CodeOK, of("Remove", 2))
		w.wants(api.CodeFree, of("Remove", 2))
	}
}

// Plan of every page, and of numbers that are none's.
func TestPlans(t *testing.T) {
	w := states(t)
	for _, page := range []int{-1, -26, 26, 27, 64, 1 << 31, 1<<32 + 16, -1 << 63, 1<<63 - 1} {
		w.plans(page)
	}
	p := told(w.d)
	for page := range 26 {
		w.plans(page, p.plan(page)...)
	}
	w.plans(8, 9, 10, 11, 12, 13, 14, 15, 8)
	w.plans(24)
}
