package measure_test

import (
	"slices"
	"testing"

	"warden/measure"
)

// roomy: a list whose spare room, and that of each operation's words, is filled.
func roomy(ops []measure.Op) []measure.Op {
	all := copied(ops)
	for i, o := range all {
		all[i].Words = append(slices.Grow(o.Words, 40), slices.Repeat([]uint32{0xabcd}, 40)...)[:len(o.Words)]
	}
	return append(slices.Grow(all, 3), thread(77), table(78), share(79))[:len(ops)]
}

// expectRoomy: a roomy list is as it was, with what stands behind it.
func expectRoomy(t *testing.T, what string, ops, was []measure.Op) {
	t.Helper()
	if !sameOps(ops, was) || !sameOps(ops[len(ops):len(ops)+3], []measure.Op{thread(77), table(78), share(79)}) {
		t.Errorf("P15.7: %s: the list that was handed in has changed", what)
	}
	for _, o := range ops {
		if !slices.Equal(o.Words[len(o.Words):len(o.Words)+40], slices.Repeat([]uint32{0xabcd}, 40)) {
			t.Errorf("P15.7: %s: what stands behind an operation's words has changed", what)
		}
	}
}

// wipe: all that an answer reaches, its spare room too.
func wipe(words []uint32) {
	clear(words[:cap(words)])
}

func TestHandedInStays(t *testing.T) {
	was := []measure.Op{table(0), data(1), thread(2), data(3), share(4)}
	for n := range len(was) + 1 {
		ops := roomy(was[:n])
		words, _ := measure.Encode(ops)
		expectRoomy(t, "Encode", ops, was[:n])
		wipe(words)
		expectRoomy(t, "Encode, its answer wiped", ops, was[:n])
		measure.Measure(ops)
		expectRoomy(t, "Measure", ops, was[:n])
		measure.Collide(ops, ops)
		measure.Collide(ops, was)
		measure.Collide(was, ops)
		expectRoomy(t, "Collide", ops, was[:n])
		for _, o := range ops {
			measure.Check(o)
			measure.Extend(measure.Start(), o)
		}
		expectRoomy(t, "Check and Extend", ops, was[:n])
	}
}

func TestDecodeLeavesWhatItWasHanded(t *testing.T) {
	list := []measure.Op{table(0), data(1), data(2), share(4)}
	was := append(plainWords(list...), wild(50, 8)...)
	words := slices.Clone(was)
	ops, _ := measure.Decode(words[:len(words)-50])
	again, _ := measure.Decode(words[:len(words)-50])
	measure.Decode(words)
	if !slices.Equal(words, was) {
		t.Error("P15.7: Decode changed its words, or what stands behind them")
	}
	for i, o := range ops {
		wipe(o.Words)
		if rest := ops[i+1:]; !sameOps(rest, list[i+1:]) {
			t.Error("P15.7: two operations of one answer share words")
		}
	}
	clear(ops[:cap(ops)])
	if !slices.Equal(words, was) {
		t.Error("P15.7: Decode's answer shares words with what it was handed")
	}
	if !sameOps(again, list) {
		t.Error("P15.7: two answers of Decode share words")
	}
	wipe(words)
	if !sameOps(again, list) {
		t.Error("P15.7: Decode keeps the words that it was handed")
	}
}

func TestEncodeAnswersNewMemory(t *testing.T) {
	ops := []measure.Op{data(1), thread(2)}
	want := plainWords(ops...)
	words, _ := measure.Encode(ops)
	again, _ := measure.Encode(ops)
	wipe(words)
	if !slices.Equal(again, want) {
		t.Error("P15.7: two answers of Encode share words")
	}
	wipe(ops[0].Words)
	if !slices.Equal(again, want) {
		t.Error("P15.7: Encode keeps the words that it was handed")
	}
}

func TestStatesAreValues(t *testing.T) {
	s := measure.Start()
	was := s
	next, _ := measure.Extend(s, data(1))
	measure.Finish(s)
	if s != was {
		t.Error("P15.7: Extend or Finish changed the state that was handed in")
	}
	s[0]++
	if measure.Start() != was {
		t.Error("P15.7: Start answers what was answered ahead of it")
	}
	if again, _ := measure.Extend(was, data(1)); again != next {
		t.Error("P15.4: the same state and operation, another answer")
	}
}
