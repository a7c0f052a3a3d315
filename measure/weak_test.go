package measure

import (
	"slices"
	"testing"

	"warden/api"
)

// weak: a sum under which many lists fall together.
func weak(words []uint32) [8]uint32 {
	var s [8]uint32
	for _, w := range words {
		s[0] = (s[0] + w) % 4
	}
	return s
}

func someLists() [][]Op {
	zeros := make([]uint32, api.PageWords)
	ones := slices.Repeat([]uint32{1}, api.PageWords)
	some := []Op{{Kind: Thread}, {Kind: Thread, Arg: 1}, {Kind: Table}, {Kind: Share, Arg: 3}, {Kind: Data, Words: zeros}, {Kind: Data, Words: ones}}
	lists := [][]Op{nil}
	for _, a := range some {
		lists = append(lists, []Op{a})
		for _, b := range some {
			lists = append(lists, []Op{a, b})
		}
	}
	return lists
}

// No two unlike lists of one SHA-256 are known: so a weak sum stands in for it.
func TestCollideByAWeakSum(t *testing.T) {
	together := 0
	lists := someLists()
	for i, a := range lists {
		for j, b := range lists {
			wordsA, _ := Encode(a)
			wordsB, _ := Encode(b)
			p, e := collide(a, b, weak)
			if i == j || weak(wordsA) != weak(wordsB) {
				if len(p.A) != 0 || len(p.B) != 0 || e != api.ErrArg {
					t.Fatalf("P15.5: lists %d and %d: %d and %d words, %d", i, j, len(p.A), len(p.B), e)
				}
				continue
			}
			together++
			if e != api.OK || !slices.Equal(p.A, wordsA) || !slices.Equal(p.B, wordsB) || slices.Equal(p.A, p.B) || weak(p.A) != weak(p.B) {
				t.Fatalf("P15.6: lists %d and %d: %d and %d words, %d", i, j, len(p.A), len(p.B), e)
			}
		}
	}
	if together < 100 {
		t.Fatalf("only %d pairs fall together", together)
	}
}

func TestPairIsNewMemory(t *testing.T) {
	page := slices.Repeat([]uint32{4}, 2*api.PageWords)
	a := []Op{{Kind: Data, Words: page[:api.PageWords]}, {Kind: Table, Arg: 1}}
	b := []Op{{Kind: Table, Arg: 1}, {Kind: Data, Words: page[:api.PageWords]}}
	for _, sum := range []func([]uint32) [8]uint32{weak, func([]uint32) [8]uint32 { return [8]uint32{} }} {
		p, e := collide(a, b, sum)
		again, _ := collide(a, b, sum)
		wordsA, wordsB := slices.Clone(p.A), slices.Clone(p.B)
		if e != api.OK || len(wordsA) != 1028 || len(wordsB) != 1028 {
			t.Fatalf("P15.5: %d and %d words, %d", len(wordsA), len(wordsB), e)
		}
		clear(p.A[:cap(p.A)])
		if !slices.Equal(p.B, wordsB) {
			t.Error("P15.7: the two lists of a pair share words")
		}
		clear(p.B[:cap(p.B)])
		if !slices.Equal(again.A, wordsA) || !slices.Equal(again.B, wordsB) {
			t.Error("P15.7: two pairs share words")
		}
		if slices.ContainsFunc(page, func(w uint32) bool { return w != 4 }) {
			t.Error("P15.7: a pair shares words with an operation")
		}
	}
}
