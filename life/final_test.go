package life_test

import (
	"math/rand"
	"slices"
	"testing"

	"warden/api"
	"warden/entry"
	"warden/measure"
)

// saved: the 26 words of a digest with that state, so many words, and these waiting.
func saved(state []uint32, n uint64, waiting ...uint32) []uint32 {
	words := make([]uint32, 26)
	copy(words, state)
	words[8], words[9] = uint32(n>>32), uint32(n)
	copy(words[10:], waiting)
	return words
}

// extended: the saved digest of a list of operations.
func extended(w world, list ...measure.Op) []uint32 {
	state := measure.Start()
	for _, o := range list {
		next, e := measure.Extend(state, o)
		w.ok("Extend", e)
		state = next
	}
	return state[:]
}

// digested: a machine whose space 2 holds these words as its digest, and others everywhere else.
func digested(t *testing.T, digest []uint32) world {
	w := booted(t, 4, 1)
	w.born(2, 1)
	for page := range 4 {
		w.fill(page, uint32(page)*3)
	}
	w.lay(2, entry.SpaceDigest, digest...)
	return w
}

// The measurement is the sum of what was added, of lists of every length.
func TestFinalMeasures(t *testing.T) {
	var list []measure.Op
	var words []uint32
	for i := range uint32(40) {
		w := digested(t, nil)
		w.lay(2, entry.SpaceDigest, extended(w, list...)...)
		w.wants(api.CodeOK, of("Final", 2))
		sum := librarySum(words...)
		w.wordsAre("P18.2", 2, entry.SpaceMeasure, sum[:]...)
		w.wordsAre("P18.2", 2, entry.SpaceDigest, make([]uint32, 26)...)
		w.entryIs(2, entry.Entry{Type: entry.Space, Owner: 2, Refs: 1, State: entry.Final})
		o := measure.Op{Kind: measure.Thread, Arg: i * 0x11111111}
		if i%7 == 3 {
			o = measure.Op{Kind: measure.Data, Arg: i, Words: slices.Repeat([]uint32{i}, 1024)}
		}
		list = append(list, o)
		words = append(append(words, uint32(o.Kind), o.Arg), o.Words...)
	}
}

// Whatever sha takes as a saved digest is finished: states and numbers that no list leads to, up to the greatest.
func TestFinalOfUnusualDigests(t *testing.T) {
	state := []uint32{0, 1, 0xffffffff, 3, 4, 5, 6, 7}
	for _, n := range []uint64{16, 17, 31, 32, 1 << 32, 1<<55 - 1, 1 << 55} {
		digest := saved(state, n, slices.Repeat([]uint32{0xcafe0001}, int(n%16))...)
		digested(t, digest).wants(api.CodeOK, of("Final", 2))
	}
	for n := range uint64(16) {
		digest := saved(firstState(), n, slices.Repeat([]uint32{0x80000000}, int(n))...)
		digested(t, digest).wants(api.CodeOK, of("Final", 2))
	}
}

// Where no digest stands the space stays as it is, and may be given one, stopped and removed.
func TestFinalWithoutDigest(t *testing.T) {
	state := []uint32{0, 1, 2, 3, 4, 5, 6, 7}
	last := saved(firstState(), 0)
	last[25] = 1
	for i, digest := range [][]uint32{
		make([]uint32, 26),
		last,
		saved(firstState(), 0, 1),
		saved(firstState(), 1, 7, 7),
		saved(state, 0),
		saved(state, 15),
		saved(state, 16, 1),
		saved(state, 1<<55+1),
		saved(state, 1<<55+16),
		saved(firstState(), 1<<63),
		slices.Repeat([]uint32{0xffffffff}, 26),
	} {
		w := digested(t, digest)
		if w.do(of("Final", 2)) != api.CodeFinal {
			t.Errorf("P18.2: Final of the ill digest %d", i)
		}
		w.entryIs(2, entry.Entry{Type: entry.Space, Owner: 2, Refs: 1, State: entry.Init})
		w.wants(api.CodeOK, of("Spare", 2, 3))
		again := w.d.Clone()
		w.lay(2, entry.SpaceDigest, saved(firstState(), 0)...)
		w.wants(api.CodeOK, of("Final", 2))
		w = world{t, again, w.seen}
		w.wants(api.CodeOK, of("Stop", 2))
		w.wants(api.CodeFinal, of("Final", 2))
		w.reclaim(2, nil)
	}
}

// One word of a digest decides, whichever it is.
func TestFinalByEachWord(t *testing.T) {
	r := rand.New(rand.NewSource(182))
	codes := map[api.Code]int{}
	for off := range 26 {
		for _, n := range []uint64{0, 5, 16, 31, 1 << 55} {
			state := firstState()
			digest := saved(state, n, slices.Repeat([]uint32{9}, int(n%16))...)
			digest[off] ^= 1 << r.Intn(32)
			codes[digested(t, digest).do(of("Final", 2))]++
		}
	}
	if codes[api.CodeOK] == 0 || codes[api.CodeFinal] == 0 {
		t.Errorf("Final answers %v here", codes)
	}
}

// One space's end of building is none of another's.
func TestFinalOfTwo(t *testing.T) {
	w := booted(t, 6, 1)
	w.born(0, 1)
	w.born(5, 4)
	w.lay(5, entry.SpaceDigest, extended(w, measure.Op{Kind: measure.Table, Arg: 1})...)
	w.wants(api.CodeOK, of("Final", 0))
	w.entryIs(5, entry.Entry{Type: entry.Space, Owner: 5, Refs: 1, State: entry.Init})
	w.wants(api.CodeOK, of("Stop", 0))
	w.wants(api.CodeOK, of("Final", 5))
	sum := librarySum(2, 1)
	w.wordsAre("P18.2", 5, entry.SpaceMeasure, sum[:]...)
	w.entryIs(0, entry.Entry{Type: entry.Space, Owner: 0, Refs: 1, State: entry.Stopped})
}

// What Stop finds it leaves: the digest of a space that was being built, the measurement of a final one, threads that are interrupted.
func TestStopLeavesAll(t *testing.T) {
	for _, final := range []bool{false, true} {
		w := booted(t, 6, 1)
		w.born(0, 1)
		w.take(2, entry.Thread, 0)
		w.ok("SetEntered", w.d.SetEntered(2, true))
		w.fill(2, 1)
		if final {
			w.wants(api.CodeOK, of("Final", 0))
		}
		was := told(w.d)
		w.wants(api.CodeOK, of("Stop", 0))
		was.entries[0].State = entry.Stopped
		w.alike("P18.3: behind Stop", was)
		w.wants(api.CodeOK, of("Stop", 0))
		w.alike("P18.3: behind another Stop", was)
		w.entryIs(2, entry.Entry{Type: entry.Thread, Entered: true})
	}
}
