package word_test

import (
	"slices"
	"testing"

	"warden/api"
	"warden/word"
)

// scatter: another word for each one but 0: the same on every run.
func scatter(x uint32) uint32 {
	x ^= x << 13
	x ^= x >> 17
	return x ^ x<<5
}

// samples: words at the edges, and some scattered ones.
func samples() []uint32 {
	out := []uint32{0, 1, 2, 3, 0x7f, 0x80, 0xff, 0x7fff, 0x8000, 0xffff, 0x10000, 0x12345678, 0x7ffffffe, 0x7fffffff, 0x80000000, 0x80000001, 0xfffffff9, 0xfffffffe, 0xffffffff}
	w := uint32(0x9e3779b9)
	for range 20 {
		w = scatter(w)
		out = append(out, w)
	}
	return out
}

// roomy: the list with marked spare room behind its length, and a look whether list and room are as they were.
func roomy[E uint32 | byte](list []E) (l []E, untouched func() bool) {
	all := append(slices.Clone(list), 0x5a, 0x5b, 0x5c, 0x5d)
	was := slices.Clone(all)
	return all[:len(list)], func() bool { return slices.Equal(all, was) }
}

func TestBytesExamples(t *testing.T) {
	for _, c := range []struct {
		words []uint32
		want  string
	}{
		{[]uint32{0x00010203, 0xfffefdfc}, "\x00\x01\x02\x03\xff\xfe\xfd\xfc"},
		{[]uint32{1}, "\x00\x00\x00\x01"},
		{[]uint32{0x80000000}, "\x80\x00\x00\x00"},
		{[]uint32{}, ""},
		{nil, ""},
	} {
		if got := word.Bytes(c.words); string(got) != c.want {
			t.Errorf("P1.1: Bytes(%#x) = %x, want %x", c.words, got, c.want)
		}
	}
}

func TestBytesHasNoBound(t *testing.T) {
	long := make([]uint32, api.MaxWords+1)
	long[api.MaxWords] = 0xa1b2c3d4
	b := word.Bytes(long)
	if len(b) != 4*len(long) {
		t.Fatalf("P1.1: Bytes of %d words: %d bytes", len(long), len(b))
	}
	if tail := b[len(b)-5:]; string(tail) != "\x00\xa1\xb2\xc3\xd4" {
		t.Errorf("P1.1: Bytes of a long list ends in %x", tail)
	}
}

func TestWordsExamples(t *testing.T) {
	b := []byte("\x00\x01\x02\x03\xff\xfe\xfd\xfc")
	if w, e := word.Words(b); e != api.OK || !slices.Equal(w, []uint32{0x00010203, 0xfffefdfc}) {
		t.Errorf("P1.2: Words(%x) = %#x, %d", b, w, e)
	}
	if w, e := word.Words(b[:3]); e != api.ErrPart || len(w) != 0 {
		t.Errorf("P1.2: Words of three bytes = %#x, %d", w, e)
	}
	for _, none := range [][]byte{nil, {}} {
		if w, e := word.Words(none); e != api.OK || len(w) != 0 {
			t.Errorf("P1.2: Words of none = %#x, %d", w, e)
		}
	}
}

func TestWordsErrors(t *testing.T) {
	for _, c := range []struct {
		n    int
		want api.Errno
	}{
		{1, api.ErrPart}, {2, api.ErrPart}, {4, api.OK}, {5, api.ErrPart}, {6, api.ErrPart}, {7, api.ErrPart}, {8, api.OK},
		{api.MaxBytes - 4, api.OK}, {api.MaxBytes - 1, api.ErrPart}, {api.MaxBytes, api.OK},
		// Beyond the bound ErrLong stands first, a multiple of 4 or not.
		{api.MaxBytes + 1, api.ErrLong}, {api.MaxBytes + 2, api.ErrLong}, {api.MaxBytes + 4, api.ErrLong},
	} {
		w, e := word.Words(make([]byte, c.n))
		if e != c.want {
			t.Errorf("P1.2: Words of %d bytes: error %d, want %d", c.n, e, c.want)
		}
		if c.want == api.OK && len(w) != c.n/4 || c.want != api.OK && len(w) != 0 {
			t.Errorf("P1.2: Words of %d bytes: %d words", c.n, len(w))
		}
	}
}

func TestWordsTurnsBytesRound(t *testing.T) {
	list := samples()
	b := word.Bytes(list)
	w, e := word.Words(b)
	if e != api.OK || !slices.Equal(w, list) {
		t.Errorf("P1.2: Words(Bytes(%#x)) = %#x, %d", list, w, e)
	}
	full := make([]byte, api.MaxBytes)
	x := uint32(1)
	for i := range full {
		x = scatter(x)
		full[i] = byte(x >> 11)
	}
	w, e = word.Words(full)
	if e != api.OK || !slices.Equal(word.Bytes(w), full) {
		t.Errorf("P1.2: Bytes(Words(b)) is not b for %d bytes", len(full))
	}
}

// Rule 5: arguments stay as they are, with the room behind them; answers are new memory.
func TestListsAreNotShared(t *testing.T) {
	words, wordsUntouched := roomy([]uint32{1, 2})
	b1, b2 := word.Bytes(words), word.Bytes(words)
	clear(b1[:cap(b1)])
	if string(b2) != "\x00\x00\x00\x01\x00\x00\x00\x02" || !wordsUntouched() {
		t.Errorf("P1.1: Bytes shares memory with its argument or another answer")
	}
	bytes, bytesUntouched := roomy([]byte{0, 0, 0, 9})
	w1, _ := word.Words(bytes)
	w2, _ := word.Words(bytes)
	clear(w1[:cap(w1)])
	if !slices.Equal(w2, []uint32{9}) || !bytesUntouched() {
		t.Errorf("P1.2: Words shares memory with its argument or another answer")
	}
	if word.HexAll(words); !wordsUntouched() {
		t.Errorf("P1.4: HexAll changed its argument")
	}
	p1, _ := word.ParseAll("0000000a0000000b")
	p2, _ := word.ParseAll("0000000a0000000b")
	clear(p1[:cap(p1)])
	if !slices.Equal(p2, []uint32{10, 11}) {
		t.Errorf("P1.4: two answers of ParseAll share memory")
	}
	if word.Same(words, words); !wordsUntouched() {
		t.Errorf("P1.13: Same changed its arguments")
	}
}

func TestOverlapExamples(t *testing.T) {
	const all = 0xffffffff
	for _, c := range []struct {
		a, n, b, m uint32
		want       bool
	}{
		{0, 4, 4, 4, false}, {0, 5, 4, 4, true}, {0xfffffffe, 10, 0, 1, false}, {0xfffffffe, 10, 0xffffffff, 10, true}, {5, 0, 0, 100, false},
		{5, 0, 5, 0, false}, {5, 0, 5, 1, false}, {5, 1, 5, 1, true}, {0, 100, 50, 0, false}, {10, 80, 0, 100, true},
		{all, 1, all, 1, true}, {all, all, all, all, true}, {all, all, 0, all, false}, {all, 2, 0, 1, false},
		{0, all, all - 1, 1, true}, {0, all, all, 1, false}, {1, all, all, 1, true}, {0x80000000, 0x80000000, 0, 0x80000000, false}, {0x80000000, 0x80000001, 0, 1, false},
	} {
		if word.Overlap(c.a, c.n, c.b, c.m) != c.want || word.Overlap(c.b, c.m, c.a, c.n) != c.want {
			t.Errorf("P1.12: Overlap(%#x, %#x, %#x, %#x), want %v both ways round", c.a, c.n, c.b, c.m, c.want)
		}
	}
}

// overlapByCount is Overlap by the letter, for few numbers.
func overlapByCount(a, n, b, m uint64) bool {
	for x := a; x < a+n && x < 1<<32; x++ {
		if x >= b && x < b+m {
			return true
		}
	}
	return false
}

func TestOverlapByCount(t *testing.T) {
	var starts []uint32
	for i := range uint32(6) {
		starts = append(starts, i, 0x7ffffffd+i, 0xfffffffa+i)
	}
	for _, a := range starts {
		for _, b := range starts {
			for n := range uint32(7) {
				for m := range uint32(7) {
					want := overlapByCount(uint64(a), uint64(n), uint64(b), uint64(m))
					if got := word.Overlap(a, n, b, m); got != want {
						t.Fatalf("P1.12: Overlap(%#x, %d, %#x, %d) = %v", a, n, b, m, got)
					}
				}
			}
		}
	}
}

func TestSame(t *testing.T) {
	for _, c := range []struct {
		a, b  []uint32
		alike bool
		looks int
	}{
		{[]uint32{1, 2}, []uint32{1, 3}, false, 2},
		{[]uint32{1, 2}, []uint32{1, 2}, true, 2},
		{[]uint32{1}, []uint32{1, 2}, false, 0},
		{[]uint32{1, 2}, []uint32{1}, false, 0},
		{nil, nil, true, 0},
		{nil, []uint32{}, true, 0},
		{nil, []uint32{0}, false, 0},
		// Differences that a sum, or an xor, of all words would not show.
		{[]uint32{1, 2}, []uint32{2, 1}, false, 2},
		{[]uint32{5, 5}, []uint32{6, 6}, false, 2},
		{[]uint32{0x80000000, 0}, []uint32{0, 0x80000000}, false, 2},
	} {
		if alike, looks := word.Same(c.a, c.b); alike != c.alike || looks != c.looks {
			t.Errorf("P1.13: Same(%v, %v) = %v, %d, want %v, %d", c.a, c.b, alike, looks, c.alike, c.looks)
		}
	}
}

func TestSameLooksAtAllWhereverTheyPart(t *testing.T) {
	list := samples()
	for i := range list {
		for bit := range 32 {
			other := slices.Clone(list)
			other[i] ^= 1 << bit
			if alike, looks := word.Same(list, other); alike || looks != len(list) {
				t.Fatalf("P1.13: parted in bit %d of word %d: %v, %d", bit, i, alike, looks)
			}
		}
	}
	if alike, looks := word.Same(list, slices.Clone(list)); !alike || looks != len(list) {
		t.Errorf("P1.13: a list and its copy: %v, %d", alike, looks)
	}
}
