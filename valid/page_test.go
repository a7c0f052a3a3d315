package valid_test

import (
	"testing"

	"warden/entry"
)

// somewhere: offsets about a page, the edges of all parts among them.
var somewhere = []int{0, 1, 2, 3, 10, 11, 17, 18, 36, 37, 255, 256, 511, 512, 1022, 1023}

// Clause 2: each word of a free page counts, and each bit of it.
func TestFreePagesAreZero(t *testing.T) {
	w := begin(t)
	for off := range 1024 {
		w.tries("a free page", 2+off%6, off, 1<<(off%32), 2, 2+off%6)
	}
	for bit := range 32 {
		w.tries("a free page", 4, 500, 1<<bit, 2, 4)
	}
	w.take(4, entry.Data, 0)
	w.put(4, 500, 1)
	w.told("a page that isn't free", 2, true)
	w.ok("Give", w.Give(4))
	w.is("given back", 0, 0)
}

// Clause 12: of a spare page too, whatever its space is.
func TestSparePagesAreZero(t *testing.T) {
	w := begin(t)
	w.take(5, entry.Spare, 0)
	w.take(6, entry.Spare, 0)
	check := func() {
		t.Helper()
		w.is("spare pages", 0, 0)
		for off := range 1024 {
			w.tries("a spare page", 5+off%2, off, 1<<(off%32), 12, 5+off%2)
		}
	}
	check()
	w.final(0)
	check()
	w.state(0, entry.Stopped)
	check()
	loose := rows(t, 0, entry.Entry{}, entry.Entry{Type: entry.Spare})
	loose.told("a spare page without a space", 12, true)
	loose.put(1, 3, 1)
	loose.told("a spare page without a space", 12, false)
	loose.told("a spare page that isn't free", 2, true)
}

// Clause 3: of every type but two, with every kind of owner.
func TestOwnersAreSpaces(t *testing.T) {
	for kind := entry.Thread; kind <= entry.Spare; kind++ {
		for owner := entry.Free; owner <= entry.Spare; owner++ {
			x := entry.Entry{Type: owner}
			if owner == entry.Space {
				x.State = entry.Init
			}
			w := rows(t, 1, x, entry.Entry{Type: kind})
			w.told("an owner", 3, owner == entry.Space)
			rows(t, 1, entry.Entry{Type: entry.Spare, Owner: 1}, entry.Entry{Type: kind, Owner: 1}).is("its own owner", 3, 0)
		}
		for s := entry.Init; s <= entry.Stopped; s++ {
			space := entry.Entry{Type: entry.Space, Owner: 1, Refs: 1, State: s}
			rows(t, 1, entry.Entry{Type: kind, Owner: 1}, space).told("a space in any state", 3, true)
		}
	}
	rows(t, 1, entry.Entry{}, entry.Entry{Type: entry.Space, State: entry.Init}).told("a space that a free page owns", 3, true)
}

// Clause 11, of one that isn't entered: nothing but its entry may be there.
func TestThreadsThatAreNotEntered(t *testing.T) {
	w := begin(t)
	w.take(4, entry.Thread, 0)
	for _, v := range []uint32{1, 3, 0x1000, 0x40000000, 0xffffffff} {
		w.tries("the entry", 4, entry.ThreadEntry, v, 0, 0)
	}
	for _, s := range []entry.State{entry.Init, entry.Final, entry.Stopped} {
		if s != entry.Init {
			w.state(0, s)
			w.wiped(0)
		}
		w.is("a thread", 0, 0)
		for off := 1; off < 1024; off++ {
			w.tries("a thread", 4, off, 1<<(off%32), 11, 4)
		}
	}
}

// Clause 11, of one that is entered: any registers and address, but flags that may be.
func TestThreadsThatAreEntered(t *testing.T) {
	w := begin(t)
	w.take(4, entry.Thread, 0)
	w.final(0)
	w.ok("SetEntered", w.SetEntered(4, true))
	for range 2 {
		for off := range 17 {
			w.tries("a saved register", 4, off, 0xffffffff-uint32(off), 0, 0)
		}
		for _, flags := range []uint32{0, 1, 2, 4, 6} {
			w.tries("flags", 4, 17, flags, 0, 0)
		}
		for _, flags := range []uint32{3, 5, 7, 8, 9, 12, 0x100, 0x80000000, 0xffffffff} {
			w.tries("flags that may not be", 4, 17, flags, 11, 4)
		}
		for off := 18; off < 1024; off++ {
			w.tries("behind the file", 4, off, 1<<(off%32), 11, 4)
		}
		w.is("entered", 0, 0)
		w.state(0, entry.Stopped)
	}
}

// Clause 11: which spaces an entered thread may have; none is one of them.
func TestSpacesOfEnteredThreads(t *testing.T) {
	thread := entry.Entry{Type: entry.Thread, Entered: true}
	for s := entry.Init; s <= entry.Stopped; s++ {
		w := rows(t, 1, entry.Entry{Type: entry.Space, Refs: 1, State: s}, thread)
		w.told("a space in a state", 11, s != entry.Init)
		w.put(1, 17, 3)
		w.told("a space in a state, and flags that may not be", 11, false)
	}
	w := rows(t, 1, entry.Entry{}, thread)
	w.told("an owner that is free", 11, true)
	w.put(1, 17, 5)
	w.told("an owner that is free, and flags that may not be", 11, false)
	rows(t, 1, entry.Entry{Type: entry.Data}, thread).told("an owner that is data", 11, true)
	thread.Entered = false
	rows(t, 1, entry.Entry{Type: entry.Space, Refs: 1, State: entry.Init}, thread).told("not entered", 11, true)
}
