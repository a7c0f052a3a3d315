package mac_test

import (
	"crypto/hmac"
	"crypto/sha256"
	"encoding/binary"
	"encoding/hex"
	"slices"
	"strings"
	"testing"

	"warden/mac"
	"warden/sha"
)

type tag = [8]uint32

// scatter: so many bytes without a plain order.
func scatter(n int, seed uint32) []byte {
	b := make([]byte, n)
	x := seed*2654435761 + 1
	for i := range b {
		x ^= x << 13
		x ^= x >> 17
		x ^= x << 5
		b[i] = byte(x >> 11)
	}
	return b
}

// wordsOf: the words whose bytes these are, the highest first.
func wordsOf(b []byte) []uint32 {
	words := make([]uint32, len(b)/4)
	for i := range words {
		words[i] = binary.BigEndian.Uint32(b[4*i:])
	}
	return words
}

// bytesOf: a tag's bytes.
func bytesOf(t tag) []byte {
	var b []byte
	for _, w := range t {
		b = binary.BigEndian.AppendUint32(b, w)
	}
	return b
}

// other: the tag by the library.
func other(key, message []byte) tag {
	h := hmac.New(sha256.New, key)
	h.Write(message)
	return tag(wordsOf(h.Sum(nil)))
}

// fromHex: the bytes that a test names, whatever space stands between them.
func fromHex(t *testing.T, s string) []byte {
	t.Helper()
	b, err := hex.DecodeString(strings.ReplaceAll(s, " ", ""))
	if err != nil {
		t.Fatal(err)
	}
	return b
}

func TestTagBytesExamples(t *testing.T) {
	repeat := func(b byte, n int) []byte { return slices.Repeat([]byte{b}, n) }
	for _, c := range []struct {
		name         string
		key, message []byte
		want         string
	}{
		{"example 1", repeat(0x0b, 20), []byte("Hi There"),
			"b0344c61 d8db3853 5ca8afce af0bf12b 881dc200 c9833da7 26e9376c 2e32cff7"},
		{"example 2", []byte("Jefe"), []byte("what do ya want for nothing?"),
			"5bdcc146 bf60754e 6a042426 089575c7 5a003f08 9d273983 9dec58b9 64ec3843"},
		{"example 3", nil, nil,
			"b613679a 0814d9ec 772f95d7 78c35fc5 ff1697c4 93715653 c6c71214 4292c5ad"},
		{"example 3, of empty lists", []byte{}, []byte{},
			"b613679a 0814d9ec 772f95d7 78c35fc5 ff1697c4 93715653 c6c71214 4292c5ad"},
		{"RFC 4231, case 3", repeat(0xaa, 20), repeat(0xdd, 50),
			"773ea91e 36800e46 854db8eb d09181a7 2959098b 3ef8c122 d9635514 ced565fe"},
		{"RFC 4231, case 6", repeat(0xaa, 131), []byte("Test Using Larger Than Block-Size Key - Hash Key First"),
			"60e43159 1ee0b67f 0d8a26aa cbf5b77f 8e0bc621 3728c514 0546040f 0ee37f54"},
	} {
		if got, want := mac.TagBytes(c.key, c.message), tag(wordsOf(fromHex(t, c.want))); got != want {
			t.Errorf("P3.1: %s = %08x, want %08x", c.name, got, want)
		}
	}
}

func TestTagBytesByLibrary(t *testing.T) {
	for k := range 140 {
		for m := 0; m < 140; m += 1 + k%3 {
			key, message := scatter(k, 1), scatter(m, 2)
			if got, want := mac.TagBytes(key, message), other(key, message); got != want {
				t.Errorf("P3.1: TagBytes of %d and %d bytes = %08x, want %08x", k, m, got, want)
			}
		}
	}
	for _, c := range [][2]int{{1000, 1}, {1<<20 + 1, 3}, {7, 1<<20 + 3}, {1<<20 + 2, 1<<20 + 1}} {
		key, message := scatter(c[0], 3), scatter(c[1], 4)
		if got, want := mac.TagBytes(key, message), other(key, message); got != want {
			t.Errorf("P3.1: TagBytes of %d and %d bytes = %08x, want %08x", c[0], c[1], got, want)
		}
	}
}

func TestTagBytesOfKeysThatMakeOneBlock(t *testing.T) {
	long, message := scatter(65, 5), []byte("message")
	sum := sha256.Sum256(long)
	for _, c := range []struct {
		name string
		a, b []byte
		same bool
	}{
		{"zeros behind a short key", []byte("key"), append([]byte("key"), make([]byte, 61)...), true},
		{"zeros behind it beyond a block", []byte("key"), append([]byte("key"), make([]byte, 62)...), false},
		{"a long key and its sum", long, sum[:], true},
		{"64 bytes and their sum", long[:64], func() []byte { s := sha256.Sum256(long[:64]); return s[:] }(), false},
	} {
		if got := mac.TagBytes(c.a, message) == mac.TagBytes(c.b, message); got != c.same {
			t.Errorf("P3.1: %s: alike %v", c.name, got)
		}
	}
}

func TestTagIsTagBytes(t *testing.T) {
	for k := range 36 {
		for m := range 36 {
			key, message := scatter(4*k, 6), scatter(4*m, 7)
			got := mac.Tag(wordsOf(key), wordsOf(message))
			if want := other(key, message); got != want || got != mac.TagBytes(key, message) {
				t.Errorf("P3.2: Tag of %d and %d words = %08x, want %08x", k, m, got, want)
			}
		}
	}
	if mac.Tag(nil, nil) != mac.TagBytes(nil, nil) || mac.Tag([]uint32{}, []uint32{}) != mac.TagBytes(nil, nil) {
		t.Errorf("P3.2: Tag of no words = %08x", mac.Tag(nil, nil))
	}
	key := scatter(4*(1<<18+1), 8)
	if got, want := mac.Tag(wordsOf(key), wordsOf(key)), other(key, key); got != want {
		t.Errorf("P3.2: Tag of 2^18 + 1 words = %08x, want %08x", got, want)
	}
	sum := sha.Sum(wordsOf(key)[:17])
	if mac.Tag(wordsOf(key)[:17], []uint32{1}) != mac.Tag(sum[:], []uint32{1}) {
		t.Error("P3.2: a key of 17 words is not replaced by its sum")
	}
}

func TestMacExample(t *testing.T) {
	m := mac.New([]uint32{1, 2})
	for _, c := range []struct{ add, all []uint32 }{
		{nil, nil},
		{[]uint32{3}, []uint32{3}},
		{nil, []uint32{3}},
		{[]uint32{}, []uint32{3}},
		{[]uint32{4, 5}, []uint32{3, 4, 5}},
	} {
		m.Add(c.add)
		if got, want := m.Tag(), mac.Tag([]uint32{1, 2}, c.all); got != want {
			t.Errorf("P3.3: Add(%v), Tag = %08x, want %08x", c.add, got, want)
		}
	}
}

func TestMacInPieces(t *testing.T) {
	message := scatter(4*75, 9)
	words := wordsOf(message)
	for _, k := range []int{0, 1, 15, 16, 17, 40} {
		key := scatter(4*k, 10)
		for a := range 40 {
			for _, b := range []int{0, 1, 15, 16, 17, 35} {
				m := mac.New(wordsOf(key))
				for _, cut := range [][2]int{{0, a}, {a, a + b}, {a + b, 75}} {
					m.Add(words[cut[0]:cut[1]])
					want := other(key, message[:4*cut[1]])
					for range 2 {
						if got := m.Tag(); got != want {
							t.Fatalf("P3.3: a key of %d words, cut at %d and %d, behind %d: %08x, want %08x", k, a, a+b, cut[1], got, want)
						}
					}
				}
			}
		}
	}
}

func TestMacsHaveNothingInCommon(t *testing.T) {
	keys := [][]byte{scatter(8, 1), scatter(8, 1), scatter(80, 2), nil}
	var all []*mac.Mac
	for _, key := range keys {
		all = append(all, mac.New(wordsOf(key)))
	}
	held := make([][]byte, len(all))
	for turn := range 30 {
		for i, m := range all {
			more := scatter(4*((turn+i)%20), uint32(10*turn+i))
			m.Add(wordsOf(more))
			held[i] = append(held[i], more...)
			if turn%3 == i%3 {
				m.Tag()
			}
		}
		for i, m := range all {
			if got, want := m.Tag(), other(keys[i], held[i]); got != want {
				t.Fatalf("P3.3: handle %d behind turn %d: %08x, want %08x", i, turn, got, want)
			}
		}
	}
}

func TestSame(t *testing.T) {
	ones := tag{}
	for i := range ones {
		ones[i] = 0xffffffff
	}
	for _, a := range []tag{{}, ones, mac.TagBytes(nil, nil)} {
		if alike, looks := mac.Same(a, a); !alike || looks != 8 {
			t.Errorf("P3.4: Same(%08x, itself) = %v, %d", a, alike, looks)
		}
		for bit := range 256 {
			b := a
			b[bit/32] ^= 1 << (bit % 32)
			if alike, looks := mac.Same(a, b); alike || looks != 8 {
				t.Errorf("P3.4: Same(%08x, bit %d turned) = %v, %d", a, bit, alike, looks)
			}
			if alike, looks := mac.Same(b, a); alike || looks != 8 {
				t.Errorf("P3.4: Same(bit %d turned, %08x) = %v, %d", bit, a, alike, looks)
			}
		}
	}
	if alike, looks := mac.Same(tag{}, ones); alike || looks != 8 {
		t.Errorf("P3.4: Same(no bit, all bits) = %v, %d", alike, looks)
	}
	// Differences that would cancel each other, were they added or xored.
	if alike, looks := mac.Same(tag{1, 2}, tag{2, 1}); alike || looks != 8 {
		t.Errorf("P3.4: Same of two words that changed places = %v, %d", alike, looks)
	}
}

func TestTagsLeaveWhatTheyAreHanded(t *testing.T) {
	for _, n := range []int{0, 1, 15, 16, 17, 30, 63, 64, 65, 80} {
		key, message := scatter(200, 1), scatter(200, 2)
		mac.TagBytes(key[:n], message[:n])
		mac.Extract(key[:n], message[:n])
		if !slices.Equal(key, scatter(200, 1)) || !slices.Equal(message, scatter(200, 2)) {
			t.Fatalf("P3.7: TagBytes of %d bytes wrote into what it was handed or behind it", n)
		}
		keyWords, words := wordsOf(scatter(800, 3)), wordsOf(scatter(800, 4))
		mac.Tag(keyWords[:n], words[:n])
		m := mac.New(keyWords[:n])
		m.Add(words[:n])
		want := m.Tag()
		if !slices.Equal(keyWords, wordsOf(scatter(800, 3))) || !slices.Equal(words, wordsOf(scatter(800, 4))) {
			t.Fatalf("P3.7: Tag, New or Add of %d words wrote into what it was handed or behind it", n)
		}
		clear(keyWords)
		clear(words)
		if got := m.Tag(); got != want {
			t.Fatalf("P3.7: a Mac of %d words keeps what it was handed", n)
		}
	}
}

func TestTagOfOneListForBoth(t *testing.T) {
	b := scatter(100, 5)
	if got, want := mac.TagBytes(b[:70], b[30:]), other(b[:70], b[30:]); got != want {
		t.Errorf("P3.7: TagBytes of lists that share memory = %08x, want %08x", got, want)
	}
	words := wordsOf(b)
	if got, want := mac.Tag(words[:20], words[5:]), other(b[:80], b[20:]); got != want {
		t.Errorf("P3.7: Tag of lists that share memory = %08x, want %08x", got, want)
	}
}
