package entry_test

import (
	"math/rand"
	"testing"

	"warden/api"
	"warden/entry"
)

// decodes: holds Decode against the plain list.
func decodes(t *testing.T, all map[words]entry.Entry, w words) {
	t.Helper()
	want, ok := all[w]
	if e, err := entry.Decode(w); e != want || err != errUnless(ok) {
		t.Fatalf("P11.3: Decode(%#x) = %+v, %d; want %+v, %d", w, e, err, want, errUnless(ok))
	}
}

func TestWordsExamples(t *testing.T) {
	for _, c := range []struct {
		e entry.Entry
		w words
	}{
		{entry.Entry{}, words{0, 0}},
		{entry.Entry{Type: entry.Space, Owner: 5, Refs: 2, State: entry.Final}, words{0x00050021, 0x00000002}},
		{entry.Entry{Type: entry.Thread, Owner: 5, Entered: true}, words{0x00050102, 0}},
		{entry.Entry{Type: entry.Spare, Owner: 63}, words{0x003f0006, 0}},
	} {
		if w, e := entry.Encode(c.e); w != c.w || e != api.OK {
			t.Errorf("P11.2: Encode(%+v) = %#x, %d; want %#x", c.e, w, e, c.w)
		}
		if got, e := entry.Decode(c.w); got != c.e || e != api.OK {
			t.Errorf("P11.3: Decode(%#x) = %+v, %d; want %+v", c.w, got, e, c.e)
		}
	}
	for _, w := range []words{{0x00050021, 64}, {0x00050029, 2}, {0x00050007, 0}, {0x00050001, 0}, {0x00050000, 0}, {0x00450005, 0}} {
		if got, e := entry.Decode(w); got != (entry.Entry{}) || e != api.ErrEntry {
			t.Errorf("P11.3: Decode(%#x) = %+v, %d", w, got, e)
		}
	}
}

func TestEncodeAll(t *testing.T) {
	all := byEntry()
	for e, want := range all {
		if w, err := entry.Encode(e); w != want || err != api.OK {
			t.Fatalf("P11.2: Encode(%+v) = %#x, %d; want %#x", e, w, err, want)
		}
	}
	every(func(e entry.Entry) {
		want, ok := all[e]
		if w, err := entry.Encode(e); w != want || err != errUnless(ok) {
			t.Fatalf("P11.2: Encode(%+v) = %#x, %d; want %#x, %d", e, w, err, want, errUnless(ok))
		}
	})
}

// TestDecodeNear: the words of every entry, and those that part from them in one bit.
func TestDecodeNear(t *testing.T) {
	all := entries()
	for w := range all {
		decodes(t, all, w)
		for bit := range 32 {
			decodes(t, all, words{w[0] ^ 1<<bit, w[1]})
			decodes(t, all, words{w[0], w[1] ^ 1<<bit})
		}
	}
}

// TestDecodeLow: all lower bits of word 0, beside few owners and words 1.
func TestDecodeLow(t *testing.T) {
	all := entries()
	for low := range uint32(1 << 12) {
		for _, owner := range []uint32{0, 1, 5, 62, 63, 64, 128, 0xffff} {
			for _, second := range []uint32{0, 1, 63, 64, 0x80000000, 0xffffffff} {
				decodes(t, all, words{owner<<16 | low, second})
			}
		}
	}
}

func TestDecodeRandom(t *testing.T) {
	all := entries()
	r := rand.New(rand.NewSource(113))
	for range 200000 {
		decodes(t, all, words{r.Uint32(), r.Uint32()})
		decodes(t, all, words{r.Uint32(), 0})
		decodes(t, all, words{r.Uint32() & 0x003f0137, r.Uint32() & 63})
		decodes(t, all, words{r.Uint32() & 0x003f0137, 0})
	}
	for _, w := range []words{{0xffffffff, 0xffffffff}, {0, 0xffffffff}, {0xffffffff, 0}, {0x003f0137, 63}} {
		decodes(t, all, w)
	}
}
