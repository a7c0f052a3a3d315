package measure_test

import (
	"crypto/sha256"
	"encoding/binary"
	"math/rand"
	"slices"
	"testing"

	"warden/api"
	"warden/measure"
)

type sum = [8]uint32

const (
	most      = 262144 // words that a list may have
	dataWords = 1026   // of an operation of Data
)

func thread(arg uint32) measure.Op { return measure.Op{Kind: 1, Arg: arg} }
func table(arg uint32) measure.Op  { return measure.Op{Kind: 2, Arg: arg} }
func share(arg uint32) measure.Op  { return measure.Op{Kind: 4, Arg: arg} }
func data(arg uint32) measure.Op {
	return measure.Op{Kind: 3, Arg: arg, Words: wild(1024, int64(arg))}
}

// wild: so many words without an order.
func wild(n int, seed int64) []uint32 {
	r := rand.New(rand.NewSource(seed))
	words := make([]uint32, n)
	for i := range words {
		words[i] = r.Uint32()
	}
	return words
}

// threads: so many operations of two words each.
func threads(n int) []measure.Op {
	ops := make([]measure.Op, n)
	for i := range ops {
		ops[i] = thread(uint32(i))
	}
	return ops
}

// pages: so many operations of Data, all of the same words.
func pages(n int) []measure.Op { return slices.Repeat([]measure.Op{data(1)}, n) }

// someOps: a list of up to so many operations, one in four of them with words that look like operations.
func someOps(r *rand.Rand, upTo int) []measure.Op {
	ops := make([]measure.Op, r.Intn(upTo+1))
	for i := range ops {
		ops[i] = measure.Op{Kind: measure.Kind(1 + r.Intn(4)), Arg: r.Uint32() >> r.Intn(32)}
		if ops[i].Kind == 3 {
			ops[i].Words = make([]uint32, 1024)
			for j := range ops[i].Words {
				ops[i].Words[j] = r.Uint32() % 6
			}
		}
	}
	return ops
}

// illOps: operations that are none.
func illOps() []measure.Op {
	return []measure.Op{
		{}, {Kind: 5}, {Kind: -1}, {Kind: 0, Words: make([]uint32, 1024)}, {Kind: 5, Words: make([]uint32, 1024)},
		{Kind: 1, Words: []uint32{0}}, {Kind: 2, Arg: 3, Words: []uint32{1}}, {Kind: 4, Words: make([]uint32, 1024)},
		{Kind: 3, Arg: 1}, {Kind: 3, Arg: 1, Words: make([]uint32, 1023)}, {Kind: 3, Words: make([]uint32, 1025)}, {Kind: 3, Words: []uint32{}},
	}
}

// plainWords: of operations that all may be.
func plainWords(ops ...measure.Op) []uint32 {
	var words []uint32
	for _, o := range ops {
		words = append(words, uint32(o.Kind), o.Arg)
		words = append(words, o.Words...)
	}
	return words
}

// plainOps: the list of these words, told from its end on: a last operation of each kind is tried, and what stands ahead of it must be a list.
func plainOps(words []uint32) ([]measure.Op, bool) {
	begins := make([]int, len(words)+1) // where the last operation of the words up to there begins; -1: they are no list
	for end := range begins {
		begins[end] = -1
		for kind := uint32(1); kind <= 4; kind++ {
			size := 2
			if kind == 3 {
				size = dataWords
			}
			at := end - size
			if at >= 0 && words[at] == kind && (at == 0 || begins[at] >= 0) {
				begins[end] = at
			}
		}
	}
	var ops []measure.Op
	for end := len(words); end > 0; end = begins[end] {
		at := begins[end]
		if at < 0 {
			return nil, false
		}
		ops = append(ops, measure.Op{Kind: measure.Kind(words[at]), Arg: words[at+1], Words: words[at+2 : end]})
	}
	slices.Reverse(ops)
	return ops, true
}

// plainSum: SHA-256 by the library, of the words' bytes with the highest first.
func plainSum(words []uint32) sum {
	var b []byte
	for _, w := range words {
		b = binary.BigEndian.AppendUint32(b, w)
	}
	d := sha256.Sum256(b)
	var s sum
	for i := range s {
		s[i] = binary.BigEndian.Uint32(d[4*i:])
	}
	return s
}

func sameOp(a, b measure.Op) bool {
	return a.Kind == b.Kind && a.Arg == b.Arg && slices.Equal(a.Words, b.Words)
}

func sameOps(a, b []measure.Op) bool { return slices.EqualFunc(a, b, sameOp) }

// copied: the same operations in memory of their own.
func copied(ops []measure.Op) []measure.Op {
	c := slices.Clone(ops)
	for i := range c {
		c[i].Words = slices.Clone(c[i].Words)
	}
	return c
}

func encodes(t *testing.T, what string, ops []measure.Op, want []uint32, wantE api.Errno) {
	t.Helper()
	if got, e := measure.Encode(ops); !slices.Equal(got, want) || e != wantE {
		t.Errorf("P15.2: Encode of %s: %d words, %d; want %d words, %d", what, len(got), e, len(want), wantE)
	}
}

func decodes(t *testing.T, what string, words []uint32, want []measure.Op, wantE api.Errno) {
	t.Helper()
	if got, e := measure.Decode(words); !sameOps(got, want) || e != wantE {
		t.Errorf("P15.2: Decode of %s: %d operations, %d; want %d operations, %d", what, len(got), e, len(want), wantE)
	}
}

func measures(t *testing.T, what string, ops []measure.Op, want sum, wantE api.Errno) {
	t.Helper()
	if got, e := measure.Measure(ops); got != want || e != wantE {
		t.Errorf("P15.3: Measure of %s = %08x, %d; want %08x, %d", what, got, e, want, wantE)
	}
}

func collides(t *testing.T, what string, a, b []measure.Op, wantE api.Errno) {
	t.Helper()
	if p, e := measure.Collide(a, b); len(p.A) != 0 || len(p.B) != 0 || e != wantE {
		t.Errorf("P15.5: Collide of %s: %d and %d words, %d; want %d", what, len(p.A), len(p.B), e, wantE)
	}
}
