package measure_test

import (
	"math/rand"
	"testing"

	"warden/api"
	"warden/measure"
	"warden/sha"
)

type state = [26]uint32

// stateOf: a saved state, put together by its places: the eight words, the number of words, those that wait.
func stateOf(h sum, n uint64, wait ...uint32) state {
	var s state
	copy(s[:], h[:])
	s[8], s[9] = uint32(n>>32), uint32(n)
	copy(s[10:], wait)
	return s
}

// plainState: that of a digest of these words.
func plainState(words []uint32) state {
	d := sha.New()
	d.Add(words)
	return d.Save()
}

func extends(t *testing.T, what string, s state, o measure.Op, want state, wantE api.Errno) state {
	t.Helper()
	got, e := measure.Extend(s, o)
	if got != want || e != wantE {
		t.Errorf("P15.4: Extend of %s by the kind %d = %08x, %d; want %08x, %d", what, o.Kind, got, e, want, wantE)
	}
	return got
}

func finishes(t *testing.T, what string, s state, want sum, wantE api.Errno) {
	t.Helper()
	if got, e := measure.Finish(s); got != want || e != wantE {
		t.Errorf("P15.4: Finish of %s = %08x, %d; want %08x, %d", what, got, e, want, wantE)
	}
}

func TestPiecesExamples(t *testing.T) {
	if got := measure.Start(); got != stateOf(sha.First(), 0) {
		t.Errorf("P15.4: Start() = %08x", got)
	}
	finishes(t, "Start()", measure.Start(), plainSum(nil), api.OK)
	s := extends(t, "Start()", measure.Start(), thread(0), stateOf(sha.First(), 2, 1, 0), api.OK)
	finishes(t, "a thread", s, sum{0xcbbc4875, 0x0debb853, 0x5093b3de, 0xaf88ac7f, 0x4cff8742, 0x5576a58d, 0xe2bac754, 0xacdb4616}, api.OK)
	s[25] = 1
	extends(t, "a state whose last word is 1", s, thread(0), state{}, api.ErrSaved)
	extends(t, "a state whose last word is 1", s, measure.Op{}, state{}, api.ErrOps)
	finishes(t, "a state whose last word is 1", s, sum{}, api.ErrSaved)
}

// inPieces: holds every state on the way against that of the words so far.
func inPieces(t *testing.T, ops []measure.Op) {
	t.Helper()
	s := measure.Start()
	for i, o := range ops {
		words := plainWords(ops[:i]...)
		for _, ill := range illOps() {
			extends(t, "a list so far", s, ill, state{}, api.ErrOps)
		}
		finishes(t, "a list so far", s, plainSum(words), api.OK)
		s = extends(t, "a list so far", s, o, plainState(plainWords(ops[:i+1]...)), api.OK)
	}
	finishes(t, "a whole list", s, plainSum(plainWords(ops...)), api.OK)
	if want, e := measure.Measure(ops); e == api.OK {
		finishes(t, "a list that can be measured", s, want, api.OK)
	}
}

func TestInPieces(t *testing.T) {
	r := rand.New(rand.NewSource(153))
	for range 60 {
		inPieces(t, someOps(r, 12))
	}
	inPieces(t, threads(40))
	inPieces(t, []measure.Op{data(1), data(2), share(1), data(3)})
}

// A list whose words are more than those of a list that Measure takes.
func TestPiecesBeyondTheBound(t *testing.T) {
	for _, ops := range [][]measure.Op{pages(256), pages(300)} {
		s := measure.Start()
		for _, o := range ops {
			s, _ = measure.Extend(s, o)
		}
		finishes(t, "a long list", s, plainSum(plainWords(ops...)), api.OK)
	}
}

// Where there is no room for all words of an operation, none is added; where there is just enough, all are.
func TestFullDigest(t *testing.T) {
	const full = 1 << 55
	h := sum(wild(8, 4))
	for _, o := range []measure.Op{thread(1), table(2), share(3), data(4)} {
		size := uint64(len(plainWords(o)))
		for short := range size + 20 {
			n := full - short
			before := stateOf(h, n, wild(int(n%16), 5)...)
			d, e := sha.Load(before[:])
			if e != api.OK {
				t.Fatalf("no state: %08x", before)
			}
			d.Add(plainWords(o))
			after := d.Save()
			if (after == before) != (short < size) {
				t.Fatalf("%d words below the bound: %08x", short, after)
			}
			extends(t, "a full digest", before, o, after, api.OK)
			finishes(t, "a full digest", before, loadedSum(before), api.OK)
		}
	}
}

// loadedSum: of a state that is one.
func loadedSum(s state) sum {
	d, _ := sha.Load(s[:])
	return d.Sum()
}

// States that say words which nobody has.
func TestForeignStates(t *testing.T) {
	r := rand.New(rand.NewSource(154))
	for i := range 2000 {
		n := 16 + r.Uint64()>>(9+r.Intn(50))
		s := stateOf(sum(wild(8, int64(i))), n, wild(int(n%16), int64(i))...)
		o := someOps(r, 1)
		if len(o) == 0 {
			o = []measure.Op{thread(r.Uint32())}
		}
		d, e := sha.Load(s[:])
		if e != api.OK {
			t.Fatalf("no state: %08x", s)
		}
		finishes(t, "a foreign state", s, d.Sum(), api.OK)
		d.Add(plainWords(o...))
		next := extends(t, "a foreign state", s, o[0], d.Save(), api.OK)
		finishes(t, "a foreign state, extended", next, d.Sum(), api.OK)
	}
}

func TestNoStates(t *testing.T) {
	h := sum(wild(8, 6))
	bad := map[string]state{
		"zeros":                             {},
		"another first state":               stateOf(h, 0),
		"another first state and 15 words":  stateOf(h, 15),
		"a word that doesn't wait":          stateOf(sha.First(), 0, 1),
		"one word too many":                 stateOf(sha.First(), 1, 7, 8),
		"a word too many behind a block":    stateOf(h, 16, 1),
		"more than 2^55 words":              stateOf(h, 1<<55+1),
		"2^55 words and one that waits":     stateOf(h, 1<<55, 1),
		"the most words that can be told":   stateOf(h, 1<<64-1),
		"words whose upper half is too big": stateOf(h, 0x800001<<32),
	}
	for place := 10; place < 26; place++ {
		s := measure.Start()
		s[place] = 0x80000000
		bad["a word where none is"] = s
		for what, s := range bad {
			for _, o := range []measure.Op{thread(0), table(1), share(2), data(3)} {
				extends(t, what, s, o, state{}, api.ErrSaved)
			}
			for _, ill := range illOps() {
				extends(t, what, s, ill, state{}, api.ErrOps)
			}
			finishes(t, what, s, sum{}, api.ErrSaved)
		}
	}
}
