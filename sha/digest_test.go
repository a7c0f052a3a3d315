package sha_test

import (
	"crypto/sha256"
	"encoding"
	"encoding/binary"
	"slices"
	"testing"

	"warden/api"
	"warden/sha"
)

const most = 1 << 55

// digestOf: one that holds these words.
func digestOf(words []uint32) *sha.Digest {
	d := sha.New()
	d.Add(words)
	return d
}

// form: a saved state, put together by what chapter 2 says of its places.
func form(state sum, n uint64, wait ...uint32) []uint32 {
	saved := append(state[:], uint32(n>>32), uint32(n))
	saved = append(saved, wait...)
	return append(saved, make([]uint32, sha.StateWords-len(saved))...)
}

// formOf: what Save of a digest of these words is to be.
func formOf(words []uint32) []uint32 {
	state, rest := sha.First(), words
	for ; len(rest) >= 16; rest = rest[16:] {
		state = sha.Block(state, [16]uint32(rest))
	}
	return form(state, uint64(len(words)), rest...)
}

func saved(d *sha.Digest) []uint32 {
	s := d.Save()
	return s[:]
}

// mustLoad: of words that are a saved state.
func mustLoad(t *testing.T, words []uint32) *sha.Digest {
	t.Helper()
	d, e := sha.Load(words)
	if d == nil || e != api.OK {
		t.Fatalf("P2.5: Load(%08x): %d", words, e)
	}
	return d
}

// expectHolds: the digest answers as one of these words.
func expectHolds(t *testing.T, promise string, d *sha.Digest, words []uint32) {
	t.Helper()
	if d.Len() != int64(len(words)) {
		t.Errorf("%s: Len() = %d of %d words", promise, d.Len(), len(words))
	}
	for range 2 {
		if got, want := d.Sum(), other(bytesOf(words)); got != want {
			t.Errorf("%s: Sum() of %d words = %08x, want %08x", promise, len(words), got, want)
		}
		if got, want := saved(d), formOf(words); !slices.Equal(got, want) {
			t.Errorf("%s: Save() of %d words = %08x, want %08x", promise, len(words), got, want)
		}
	}
}

func TestDigestHolds(t *testing.T) {
	expectHolds(t, "P2.3", sha.New(), nil)
	for n := range 100 {
		expectHolds(t, "P2.3", digestOf(scatter(n, 1)), scatter(n, 1))
	}
}

func TestAddInPieces(t *testing.T) {
	words := scatter(75, 2)
	for a := range 40 {
		for _, b := range []int{0, 1, 2, 15, 16, 17, 33} {
			d := sha.New()
			for _, piece := range [][]uint32{words[:a], words[a : a+b], nil, words[a+b:]} {
				d.Add(piece)
				d.Sum()
				d.Save()
			}
			expectHolds(t, "P2.6", d, words)
		}
	}
	d := sha.New()
	for i := range words {
		d.Add(words[i : i+1])
		expectHolds(t, "P2.6", d, words[:i+1])
	}
}

func TestCopyIsOnItsOwn(t *testing.T) {
	for n := range 40 {
		words, more, others := scatter(n, 3), scatter(7, 4), scatter(20, 5)
		d := digestOf(words)
		c := d.Copy()
		d.Add(more)
		expectHolds(t, "P2.3", c, words)
		c.Add(others)
		expectHolds(t, "P2.3", d, slices.Concat(words, more))
		expectHolds(t, "P2.3", c, slices.Concat(words, others))
	}
}

func TestSaveExamples(t *testing.T) {
	if sha.StateWords != 26 {
		t.Errorf("P2.4: StateWords is %d", sha.StateWords)
	}
	d := sha.New()
	if got := saved(d); !slices.Equal(got, form(sha.First(), 0)) {
		t.Errorf("P2.4: Save of no words = %08x", got)
	}
	d.Add([]uint32{7})
	if got := saved(d); !slices.Equal(got, form(sha.First(), 1, 7)) {
		t.Errorf("P2.4: Save of the word 7 = %08x", got)
	}
	mustLoad(t, form(sha.First(), 0))
	mustLoad(t, form(sha.First(), 1, 7))
}

func TestLoadOfSave(t *testing.T) {
	words := scatter(60, 6)
	for n := range 50 {
		d := mustLoad(t, saved(digestOf(words[:n])))
		expectHolds(t, "P2.5", d, words[:n])
		c := d.Copy()
		d.Add(words[n:])
		expectHolds(t, "P2.5", d, words)
		expectHolds(t, "P2.5", c, words[:n])
	}
}

// resumed: the library's sum with this state behind n words (a multiple of 16), and then these.
func resumed(t *testing.T, state sum, n uint64, words []uint32) sum {
	t.Helper()
	h := sha256.New()
	form := append([]byte("sha\x03"), bytesOf(state[:])...)
	form = binary.BigEndian.AppendUint64(append(form, make([]byte, 64)...), 4*n)
	if err := h.(encoding.BinaryUnmarshaler).UnmarshalBinary(form); err != nil {
		t.Fatal(err)
	}
	h.Write(bytesOf(words))
	b := h.Sum(nil)
	var s sum
	for i := range s {
		s[i] = binary.BigEndian.Uint32(b[4*i:])
	}
	return s
}

func TestLoadOfAnyState(t *testing.T) {
	for _, n := range []uint64{16, 32, 1<<32 - 16, 1 << 32, 1<<32 + 16, 1 << 40, most - 64, most - 16, most} {
		for i, state := range []sum{{}, sum(scatter(8, 7)), sha.First()} {
			for k := range 16 {
				if n == most && k > 0 {
					continue
				}
				wait := scatter(k, uint32(i))
				words := form(state, n+uint64(k), wait...)
				d := mustLoad(t, words)
				if !slices.Equal(saved(d), words) || d.Len() != int64(n)+int64(k) {
					t.Fatalf("P2.5: Load(%08x): Save %08x, Len %d", words, d.Save(), d.Len())
				}
				if got, want := d.Sum(), resumed(t, state, n, wait); got != want {
					t.Fatalf("P2.5: Load(%08x): Sum %08x, want %08x", words, got, want)
				}
				more := scatter(min(48, int(most-n))-k, 8)
				d.Add(more)
				if got, want := d.Sum(), resumed(t, state, n, slices.Concat(wait, more)); got != want {
					t.Fatalf("P2.5: Load(%08x), Add of %d words: Sum %08x, want %08x", words, len(more), got, want)
				}
			}
		}
	}
}

func TestLoadRefuses(t *testing.T) {
	first, zero := sha.First(), sum{}
	with := func(words []uint32, at int, w uint32) []uint32 {
		words[at] = w
		return words
	}
	for _, c := range []struct {
		name  string
		words []uint32
	}{
		{"nil", nil},
		{"no words", []uint32{}},
		{"8 words", first[:]},
		{"25 words", form(first, 0)[:25]},
		{"27 words", append(form(first, 0), 0)},
		{"52 words", append(form(first, 0), form(first, 0)...)},
		{"the last word 1", with(form(first, 1, 7), 25, 1)},
		{"a word where none waits", form(first, 0, 1)},
		{"two words where one waits", form(first, 1, 7, 8)},
		{"the last word 1 behind fifteen", with(form(zero, 31, scatter(15, 1)...), 25, 1)},
		{"a word behind two blocks", form(zero, 32, 1)},
		{"the last word of a block behind a block", with(form(zero, 16), 25, 1)},
		{"2^55 + 1 words", form(first, most+1, 1)},
		{"2^55 + 1 words, the one 0", form(first, most+1)},
		{"2^55 + 16 words", form(zero, most+16)},
		{"2^56 words", form(zero, 2*most)},
		{"2^63 words", form(zero, 1<<63)},
		{"2^64 - 16 words", form(zero, 1<<64-16)},
		{"no words of another state", form(zero, 0)},
		{"three words of another state", form(zero, 3)},
		{"fifteen words of another state", form(zero, 15, scatter(15, 1)...)},
		{"the first state but for its first word", with(form(first, 15), 0, 0)},
		{"the first state but for its last word", with(form(first, 1, 1), 7, 0x5be0cd18)},
	} {
		if d, e := sha.Load(c.words); d != nil || e != api.ErrSaved {
			t.Errorf("P2.5: Load of %s: %d, want ErrSaved and nil", c.name, e)
		}
	}
	for at := 11; at < sha.StateWords; at++ {
		for k := range at - 10 {
			if d, e := sha.Load(with(form(zero, 48+uint64(k)), at, 1<<31)); d != nil || e != api.ErrSaved {
				t.Errorf("P2.5: Load with %d words waiting and word %d not 0: %d, want ErrSaved", k, at, e)
			}
		}
	}
}

func TestAddUpToTheBound(t *testing.T) {
	full := mustLoad(t, form(sum{}, most))
	for _, words := range [][]uint32{{1}, {}, nil, scatter(16, 1), scatter(17, 1)} {
		full.Add(words)
		if got := saved(full); !slices.Equal(got, form(sum{}, most)) {
			t.Errorf("P2.3: Add of %d words to 2^55: %08x", len(words), got)
		}
	}
	if full.Len() != 36028797018963968 {
		t.Errorf("P2.3: Len() of 2^55 words = %d", full.Len())
	}
	if got, want := full.Sum(), sha.Block(sum{}, [16]uint32{0x80000000, 14: 1 << 28}); got != want {
		t.Errorf("P2.3: Sum() of 2^55 words = %08x, want %08x", got, want)
	}
	near := form(sum{}, most-20, scatter(12, 2)...)
	d := mustLoad(t, near)
	for _, n := range []int{21, 36, 1000} {
		d.Add(scatter(n, 3))
		if !slices.Equal(saved(d), near) {
			t.Fatalf("P2.3: Add of %d words where 20 have room did something", n)
		}
	}
	words := scatter(20, 3)
	d.Add(words[:19])
	if d.Add(words[:2]); d.Len() != most-1 {
		t.Errorf("P2.3: Add of two words where one has room: Len %d", d.Len())
	}
	if d.Add(words[19:]); d.Len() != most {
		t.Errorf("P2.3: Add up to 2^55: Len %d", d.Len())
	}
	if got, want := d.Sum(), resumed(t, sum{}, most-32, slices.Concat(scatter(12, 2), words)); got != want {
		t.Errorf("P2.6: Sum() of 2^55 words = %08x, want %08x", got, want)
	}
}

func TestDigestKeepsNothingHandedIn(t *testing.T) {
	for n := range 50 {
		words := scatter(100, 9)
		d := sha.New()
		d.Add(words[:n])
		if !slices.Equal(words, scatter(100, 9)) {
			t.Fatalf("P2.7: Add of %d words wrote into them or behind them", n)
		}
		clear(words)
		expectHolds(t, "P2.7", d, scatter(100, 9)[:n])

		form := append(formOf(scatter(n, 9)), scatter(30, 10)...)
		was := slices.Clone(form)
		l := mustLoad(t, form[:sha.StateWords])
		if !slices.Equal(form, was) {
			t.Fatalf("P2.7: Load of %d words wrote into them or behind them", n)
		}
		clear(form)
		expectHolds(t, "P2.7", l, scatter(n, 9))
	}
}

func TestDigestsHaveNothingInCommon(t *testing.T) {
	form := formOf(scatter(5, 1))
	all := []*sha.Digest{sha.New(), sha.New(), mustLoad(t, form), mustLoad(t, form)}
	all = append(all, all[2].Copy(), all[2].Copy())
	var want [][]uint32
	for i, d := range all {
		held := scatter(int(d.Len()), 1)
		more := scatter(30-i, uint32(20+i))
		d.Add(more)
		want = append(want, append(held, more...))
	}
	for i, d := range all {
		expectHolds(t, "P2.7", d, want[i])
	}
}
