package valid_test

import (
	"testing"

	"warden/entry"
	"warden/pagedb"
	"warden/sha"
	"warden/valid"
)

// Clause 1, and that clause 4 counts a space that another one owns.
func TestSpacesOwnThemselves(t *testing.T) {
	for s := entry.Init; s <= entry.Stopped; s++ {
		one := entry.Entry{Type: entry.Space, Refs: 1, State: s}
		other := entry.Entry{Type: entry.Space, State: s}
		w := rows(t, 2, one, other)
		w.is("a space that another one owns", 1, 1)
		w.told("a space that owns another one", 4, true)
		one.Refs, other.Owner = 0, 1
		w = rows(t, 2, one, other)
		w.told("two spaces that own themselves", 1, true)
		w.told("two spaces that own nothing else", 4, true)
		one.Owner = 1
		rows(t, 2, one, other).is("the first of two", 1, 0)
	}
	rows(t, 0, entry.Entry{}, entry.Entry{Type: entry.Data}).told("a page that is no space", 1, true)
}

// Clause 4: neither more nor less than it owns, and free pages (whose Owner is 0 too) don't count.
func TestSpacesCountTheirPages(t *testing.T) {
	for refs := range 64 {
		w := mapped(t).with(0, entry.Entry{Type: entry.Space, Refs: refs, State: entry.Init})
		w.told("three pages", 4, refs == 3)
	}
	for kind := entry.Thread; kind <= entry.Spare; kind++ {
		l := []entry.Entry{{Type: entry.Space, Refs: 1, State: entry.Stopped}, {Type: kind}, {}}
		rows(t, 1, l...).told("one page", 4, true)
		l[2] = entry.Entry{Type: kind}
		rows(t, 1, l...).is("two pages", 4, 0)
		l[2].Owner = 2
		rows(t, 1, l...).told("one of two pages", 4, true)
	}
	var all []entry.Entry
	for range 64 {
		all = append(all, entry.Entry{Type: entry.Spare, Owner: 63})
	}
	all[63] = entry.Entry{Type: entry.Space, Owner: 63, Refs: 63, State: entry.Stopped}
	rows(t, 1, all...).is("all pages", 0, 0)
	all[63].Refs = 62
	rows(t, 1, all...).is("all pages but one", 4, 63)
}

// Clause 5: below births, unlike those of the spaces with lower numbers, and not too many draws.
func TestBirthsAreUnlike(t *testing.T) {
	w := world{t, pagedb.New(memory(t, 9, 1))}
	for _, space := range []int{2, 6, 4} {
		w.ok("TakeSpace", w.TakeSpace(space, space+1))
		w.digest(space)
	}
	w.is("three spaces", 0, 0)
	w.tries("the birth of 2", 6, 1, 0, 5, 6)
	w.tries("the birth of 4", 6, 1, 2, 5, 6)
	w.tries("the birth of 4", 2, 1, 2, 5, 4)
	w.tries("the birth of 6", 4, 1, 1, 5, 6)
	for _, birth := range []uint32{3, 4, 63, 64, 0x80000000, 0xffffffff} {
		w.tries("a birth that wasn't", 4, 1, birth, 5, 4)
	}
	w.tries("two births that weren't", 6, 1, 3, 5, 6)
	for _, draws := range []uint32{0, 1, 4095, 4096} {
		w.tries("draws", 4, 2, draws, 0, 0)
	}
	for _, draws := range []uint32{4097, 8192, 0x80000000, 0xffffffff} {
		w.tries("too many draws", 4, 2, draws, 5, 4)
	}
	w.state(2, entry.Stopped)
	w.state(4, entry.Stopped)
	w.tries("the birth of one that is stopped", 6, 1, 0, 5, 6)
	w.tries("of one that is stopped", 4, 1, 0, 5, 4)
	w.tries("of one that is stopped", 4, 2, 4097, 5, 4)
	w.take(0, entry.Thread, 6)
	w.put(0, 1, 1)
	w.told("a page that is no space", 5, true)
}

func TestBirthsAreBelowTheirNumber(t *testing.T) {
	for births := range uint32(65) {
		w := rows(t, births, entry.Entry{Type: entry.Space, State: entry.Stopped}, entry.Entry{})
		for birth := range uint32(66) {
			w.put(0, 1, birth)
			if valid.Holds(w.DB, 5) != (birth < births) {
				t.Fatalf("P13.1: the birth %d of %d: Holds(5) = %t", birth, births, birth >= births)
			}
		}
	}
}

// some: a digest's words, so many, put into a saved state with that number of words and that state.
func some(n uint64, state [8]uint32, waiting ...uint32) []uint32 {
	words := append(state[:], uint32(n>>32), uint32(n))
	words = append(words, waiting...)
	return append(words, make([]uint32, 26-len(words))...)
}

// Clause 6 while it is built: a saved digest, and no measurement.
func TestWordsOfASpaceInBuilding(t *testing.T) {
	w := begin(t)
	begun, other := sha.First(), [8]uint32{7: 1}
	check := func(what string, words []uint32, clause int) {
		t.Helper()
		w.lay(0, 11, words)
		w.is(what, clause, 0)
	}
	for _, stop := range []bool{false, true} {
		if stop {
			w.state(0, entry.Stopped)
		}
		check("one word", some(1, begun, 7), 0)
		check("15 words", some(15, begun, 1, 2, 3, 4, 5, 6, 7, 8, 9, 10, 11, 12, 13, 14, 15), 0)
		check("16 words", some(16, other), 0)
		check("2^55 words", some(1<<55, other), 0)
		check("2^55 words and one", some(1<<55+1, other), 6)
		check("15 words of another state", some(15, other, 1), 6)
		check("no words and one that waits", some(0, begun, 1), 6)
		check("one word and two that wait", some(1, begun, 0, 1), 6)
		check("16 words and one that waits", some(16, other, 1), 6)
		check("a word behind those that wait", some(31, other, 1, 2, 3, 4, 5, 6, 7, 8, 9, 10, 11, 12, 13, 14, 15, 1), 6)
		w.digest(0)
		w.is("no words", 0, 0)
		for off := 3; off < 11; off++ {
			w.tries("a measurement", 0, off, 1<<(off%32), 6, 0)
		}
		for off := 37; off < 1024; off++ {
			w.tries("behind the digest", 0, off, 1<<(off%32), 6, 0)
		}
	}
	w.wiped(0)
	w.put(0, 3, 1)
	w.is("stopped, as a final one", 0, 0)
	w.with(0, entry.Entry{Type: entry.Space, Refs: 1, State: entry.Init}).is("in building, as a final one", 6, 0)
}

// Clause 6 when it is final: no digest, and any measurement.
func TestWordsOfAFinalSpace(t *testing.T) {
	w := begin(t)
	w.state(0, entry.Final)
	w.is("a digest still", 6, 0)
	w.wiped(0)
	for _, s := range []entry.State{entry.Final, entry.Stopped} {
		if s == entry.Stopped {
			w.state(0, s)
		}
		for off := 3; off < 11; off++ {
			w.tries("a measurement", 0, off, 1<<off, 0, 0)
		}
		w.lay(0, 3, []uint32{1, 2, 3, 4, 5, 6, 7, 0xffffffff})
		for off := 11; off < 1024; off++ {
			w.tries("behind the measurement", 0, off, 1<<(off%32), 6, 0)
		}
		w.is("a measurement", 0, 0)
	}
	w.digest(0)
	w.is("stopped, with a digest and a measurement", 6, 0)
	w.lay(0, 3, make([]uint32, 8))
	w.is("stopped, with a digest", 0, 0)
}

// Clause 7: which word a space has, and which pages are first tables of it.
func TestSpacesHaveOneFirstTable(t *testing.T) {
	w := mapped(t)
	w.ok("TakeSpace", w.TakeSpace(6, 5))
	w.digest(6)
	for _, s := range []entry.State{entry.Init, entry.Final} {
		if s == entry.Final {
			w.final(0)
		}
		for _, v := range []uint32{0, 2, 3, 4, 5, 6, 7, 8, 9, 63, 64, 0x101, 0x10001, 0x80000001, 0xffffffff} {
			w.tries("another word", 0, 0, v, 7, 0)
		}
		w.tries("another word", 6, 0, 1, 7, 6)
		w.is("two spaces", 0, 0)
		two := w.with(4, entry.Entry{Type: entry.First})
		two.told("two first tables", 7, false)
		two.put(0, 0, 4)
		two.told("two first tables", 7, false)
		w.put(0, 0, 1)
	}
	w.ok("Give", w.Give(5))
	w.is("none", 7, 6)
	w.state(6, entry.Stopped)
	w.is("none, and stopped", 0, 0)
	w.put(6, 0, 0xffffffff)
	w.is("a word of a stopped one", 0, 0)
	w.with(5, entry.Entry{Type: entry.First, Owner: 6}).with(4, entry.Entry{Type: entry.First, Owner: 6}).told("two of a stopped one", 7, true)
}
