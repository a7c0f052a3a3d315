package build_test

import (
	"crypto/sha256"
	"encoding/binary"
	"testing"

	"warden/api"
	"warden/entry"
	"warden/measure"
	"warden/sha"
)

// digest: the words of a page at which a space's running digest stands.
func (w world) digest(page int) (state [sha.StateWords]uint32) {
	for i := range state {
		state[i] = w.d.Memory().Peek(secure(page), entry.SpaceDigest+i)
	}
	return state
}

func (w world) finish(page int) [8]uint32 {
	w.Helper()
	sum, e := measure.Finish(w.digest(page))
	if e != api.OK {
		w.Fatalf("P17.8: page %d holds no digest: %d", page, e)
	}
	return sum
}

// librarySum: SHA-256 of words, by the library.
func librarySum(words ...uint32) (sum [8]uint32) {
	var b []byte
	for _, w := range words {
		b = binary.BigEndian.AppendUint32(b, w)
	}
	s := sha256.Sum256(b)
	for i := range sum {
		sum[i] = binary.BigEndian.Uint32(s[4*i:])
	}
	return sum
}

func (w world) measures(page int, words ...uint32) {
	w.Helper()
	if got, want := w.finish(page), librarySum(words...); got != want {
		w.Fatalf("P17.8: the measurement of space %d is %08x; want %08x", page, got, want)
	}
}

// Two spaces that are built by turns, with refused calls between: each has its own list, of what was taken alone.
func TestMeasuredByTurns(t *testing.T) {
	w := booted(t, 16, 3)
	w.fill(2, 99)
	page := w.p.insecure[2]
	w.wants(api.CodeOK, of("Space", 9, 3))
	w.measures(9)
	w.wants(api.CodeOK, of("Space", 4, 15))
	w.wants(api.CodeOK, of("Thread", 9, 0, 0xfffffffe))
	w.measures(9, 1, 0xfffffffe)
	w.measures(4)
	w.wants(api.CodeOK, of("Table", 4, 1, 255))
	w.measures(4, 2, 255)
	w.wants(api.CodeAddress, of("Table", 4, 2, 255))
	w.wants(api.CodeTable, of("Data", 9, 2, 0x3fc00005, 2))
	w.measures(4, 2, 255)
	w.measures(9, 1, 0xfffffffe)
	w.wants(api.CodeOK, of("Data", 4, 2, 0x3fc00005, 2))
	list := append([]uint32{2, 255, 3, 0x3fc00005}, page...)
	w.measures(4, list...)
	w.wants(api.CodeAddress, of("Share", 4, 0x3fc00001, 2))
	w.wants(api.CodeOK, of("Share", 4, 0x3ffff001, 2))
	w.measures(4, append(list, 4, 0x3ffff001)...)
	w.wants(api.CodeOK, of("Share", 4, 0x3fffe003, 0))
	w.measures(4, append(list, 4, 0x3ffff001, 4, 0x3fffe003)...)
	w.measures(9, 1, 0xfffffffe)
	w.wants(api.CodeOK, of("Table", 9, 5, 0))
	w.wants(api.CodeOK, of("Table", 9, 6, 1))
	w.measures(9, 1, 0xfffffffe, 2, 0, 2, 1)
}

// What is measured is what the page holds then: the system may change its own page later, or have changed it before.
func TestMeasuredAsItWasThen(t *testing.T) {
	w := booted(t, 8, 1)
	w.wants(api.CodeOK, of("Space", 0, 1))
	w.wants(api.CodeOK, of("Table", 0, 2, 0))
	w.wants(api.CodeOK, of("Data", 0, 3, 1, 0))
	w.write(0, 1023, 5)
	w.alike("behind a write")
	zero := make([]uint32, 1024)
	list := append([]uint32{2, 0, 3, 1}, zero...)
	w.measures(0, list...)
	w.wants(api.CodeOK, of("Data", 0, 4, 0x1001, 0))
	zero[1023] = 5
	list = append(append(list, 3, 0x1001), zero...)
	w.measures(0, list...)
}

// Pages, and which insecure page is shared, play no part; the order of the calls, and every argument that is measured, do.
func TestWhatIsMeasured(t *testing.T) {
	built := func(calls ...call) [8]uint32 {
		w := booted(t, 10, 3)
		w.fill(1, 3)
		w.fill(2, 3)
		w.wants(api.CodeOK, of("Space", 0, 1))
		for _, c := range calls {
			w.wants(api.CodeOK, c)
		}
		return w.finish(0)
	}
	table, thread := of("Table", 0, 2, 0), of("Thread", 0, 3, 8)
	one := built(table, thread, of("Data", 0, 4, 0x1001, 1), of("Share", 0, 0x2001, 0))
	if built(of("Table", 0, 9, 0), of("Thread", 0, 8, 8), of("Data", 0, 7, 0x1001, 2), of("Share", 0, 0x2001, 1)) != one {
		t.Errorf("P17.8: the numbers of pages are measured")
	}
	for i, other := range [][8]uint32{
		built(thread, table, of("Data", 0, 4, 0x1001, 1), of("Share", 0, 0x2001, 0)),
		built(table, thread, of("Share", 0, 0x2001, 0), of("Data", 0, 4, 0x1001, 1)),
		built(table, of("Thread", 0, 3, 9), of("Data", 0, 4, 0x1001, 1), of("Share", 0, 0x2001, 0)),
		built(table, thread, of("Data", 0, 4, 0x1003, 1), of("Share", 0, 0x2001, 0)),
		built(table, thread, of("Data", 0, 4, 0x1001, 0), of("Share", 0, 0x2001, 0)),
		built(table, thread, of("Data", 0, 4, 0x1001, 1), of("Share", 0, 0x2003, 0)),
		built(table, thread, of("Data", 0, 4, 0x1001, 1)),
	} {
		if other == one {
			t.Errorf("P17.8: the other list %d has the same measurement", i)
		}
	}
}

// A digest may say that it holds as many words as can be: then an operation is taken, and adds nothing to it; one that has just room for a thread's two words gets these.
func TestMeasuredIntoFullDigests(t *testing.T) {
	for _, short := range []uint32{0, 1, 2} {
		w := booted(t, 8, 1)
		w.wants(api.CodeOK, of("Space", 0, 1))
		state := w.digest(0)
		state[8], state[9] = 0x800000, 0
		if short > 0 {
			state[8], state[9] = 0x7fffff, -short
		}
		for i, v := range state {
			w.d.Memory().Write(secure(0), entry.SpaceDigest+i, v)
		}
		want, e := measure.Extend(state, measure.Op{Kind: measure.Thread, Arg: 7})
		if e != api.OK || (want == state) != (short < 2) {
			t.Fatalf("%d words below the bound: %08x, %d", short, want, e)
		}
		if code := of("Thread", 0, 2, 7).do(w.d); code != api.CodeOK || w.digest(0) != want {
			t.Errorf("P17.3: %d words below the bound: %d, %08x", short, code, w.digest(0))
		}
	}
}
