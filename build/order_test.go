package build_test

import (
	"testing"

	"warden/api"
	"warden/entry"
)

// none: words that are no page's where there are so many; some have a page's number in their lower bits.
func none(pages uint32) []uint32 {
	return []uint32{pages, pages + 1, 63, 64, 0x100, 0x109, 0x10000, 0x10002, 0x7fffffff, 0x80000000, 0x80000002, 0xffffff00, 0xffffffff}
}

// site: a machine with a space of each state (0, 2, 4, with their tables 1, 3, 5), of which the first has a thread 6, a table 7, data 8 and a share; the pages 9 to 11 are free.
func site(t *testing.T) world {
	w := booted(t, 12, 4)
	w.fill(3, 11)
	for _, c := range []call{
		of("Space", 0, 1), of("Space", 2, 3), of("Space", 4, 5),
		of("Thread", 0, 6, 0x1000), of("Table", 0, 7, 1), of("Data", 0, 8, 0x400005, 3), of("Share", 0, 0x7ff003, 2),
	} {
		w.wants(api.CodeOK, c)
	}
	w.final(2)
	w.setState(4, entry.Stopped)
	return w
}

// spaces: words that name no space that can be built, of every kind, and one that does.
func spaces() []uint32 {
	return append(none(12), 1, 6, 7, 8, 9, 2, 4, 0)
}

// mappings: no mapping words; those for whose address there is no table, or something already; one that is right.
func mappings() []uint32 {
	return []uint32{0, 0x401000, 0x401002, 0x401009, 0x401801, 0x40401001, 0x80401001, 0xffffffff, 1, 5, 0x3ffff003, 0x800001, 0x400001, 0x400005, 0x7ff001, 0x7ff007, 0x401005, 0x401003}
}

// each: every list that takes one word of each of these.
func each(lists ...[]uint32) [][]uint32 {
	all := [][]uint32{nil}
	for _, list := range lists {
		var next [][]uint32
		for _, head := range all {
			for _, w := range list {
				next = append(next, append(head[:len(head):len(head)], w))
			}
		}
		all = next
	}
	return all
}

// sweep: a call with each of these arguments, over the same machine: it answers the first of its codes that applies. All these codes must come.
func sweep(t *testing.T, name string, all [][]uint32, codes ...api.Code) {
	t.Helper()
	w, seen := site(t), map[api.Code]int{}
	for _, args := range all {
		code := w.do(of(name, args...))
		seen[code]++
		if code == api.CodeOK {
			w = site(t)
		}
	}
	for _, code := range codes {
		if seen[code] == 0 {
			t.Errorf("%s never answers %d here", name, code)
		}
	}
}

func TestSpaceCodes(t *testing.T) {
	pages := append(none(12), 0, 1, 2, 4, 6, 7, 8, 9, 11)
	sweep(t, "Space", each(pages, pages), api.CodeOK, api.CodePage, api.CodeArg, api.CodeUsed)
}

func TestThreadCodes(t *testing.T) {
	pages := append(none(12), 0, 1, 2, 5, 6, 7, 8, 9)
	sweep(t, "Thread", each(spaces(), pages, []uint32{0xffffffff}), api.CodeOK, api.CodePage, api.CodeSpace, api.CodeFinal, api.CodeUsed)
}

func TestTableCodes(t *testing.T) {
	pages, indices := []uint32{12, 0xffffffff, 0x80000009, 0, 1, 3, 8, 9}, []uint32{256, 257, 1023, 0x100000, 0x80000000, 0xffffffff, 1, 0, 255}
	sweep(t, "Table", each(spaces(), pages, indices), api.CodeOK, api.CodePage, api.CodeSpace, api.CodeFinal, api.CodeArg, api.CodeUsed, api.CodeAddress)
}

func TestDataCodes(t *testing.T) {
	all := each([]uint32{12, 0x80000000, 6, 9, 2, 4, 0}, []uint32{12, 0xffffff09, 0, 7, 8, 9}, mappings(), []uint32{4, 0x80000003, 0xffffffff, 3})
	sweep(t, "Data", all, api.CodeOK, api.CodePage, api.CodeSpace, api.CodeFinal, api.CodeMapping, api.CodeInsecure, api.CodeUsed, api.CodeTable, api.CodeAddress)
}

func TestShareCodes(t *testing.T) {
	sweep(t, "Share", each(spaces(), mappings(), append(none(4), 3)), api.CodeOK, api.CodePage, api.CodeSpace, api.CodeFinal, api.CodeMapping, api.CodeInsecure, api.CodeTable, api.CodeAddress)
}

// As many spaces as streams may be born, and then none; births that are used up are the last that is looked at.
func TestBirths(t *testing.T) {
	w := booted(t, 4, 1)
	w.wants(api.CodeOK, of("Space", 3, 0))
	for birth := uint32(1); birth < 64; birth++ {
		w.wants(api.CodeOK, of("Space", 1, 2))
		if got := w.d.Memory().Peek(secure(1), entry.SpaceBirth); got != birth {
			t.Fatalf("P17.1: birth %d; want %d", got, birth)
		}
		w.drop(1)
	}
	w.wants(api.CodeStreams, of("Space", 1, 2))
	w.wants(api.CodeStreams, of("Space", 2, 1))
	w.wants(api.CodePage, of("Space", 1, 4))
	w.wants(api.CodePage, of("Space", 0xffffffff, 1))
	w.wants(api.CodeArg, of("Space", 1, 1))
	w.wants(api.CodeUsed, of("Space", 3, 1))
	w.wants(api.CodeUsed, of("Space", 1, 3))
	w.wants(api.CodeOK, of("Thread", 3, 1, 0))
}
