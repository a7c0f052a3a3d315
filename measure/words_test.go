package measure_test

import (
	"fmt"
	"math"
	"math/rand"
	"slices"
	"strings"
	"testing"

	"warden/api"
	"warden/measure"
)

func TestKinds(t *testing.T) {
	got := []measure.Kind{measure.Thread, measure.Table, measure.Data, measure.Share, measure.Kinds}
	if !slices.Equal(got, []measure.Kind{1, 2, 3, 4, 5}) {
		t.Errorf("P15.1: the kinds are %d", got)
	}
}

func TestCheck(t *testing.T) {
	kinds := []measure.Kind{-3, -2, -1, 0, 1, 2, 3, 4, 5, 6, 7, 255, 259, 65539, math.MaxInt32, math.MinInt32, math.MaxInt, math.MinInt}
	for far := uint64(1); far <= 4; far++ {
		kinds = append(kinds, measure.Kind(far<<32+far), -measure.Kind(far))
	}
	for _, kind := range kinds {
		for _, n := range []int{0, 1, 2, 1022, 1023, 1024, 1025, 1026, 2048, most, most + 1024} {
			for _, arg := range []uint32{0, 1, 0x1000, 256, 0x7fffffff, 0x80000000, 0xffffffff} {
				want := api.ErrOps
				if kind == 3 && n == 1024 || (kind == 1 || kind == 2 || kind == 4) && n == 0 {
					want = api.OK
				}
				o := measure.Op{Kind: kind, Arg: arg, Words: make([]uint32, n)}
				if e := measure.Check(o); e != want {
					t.Fatalf("P15.1: Check of the kind %d, %#x, %d words = %d; want %d", kind, arg, n, e, want)
				}
			}
		}
	}
	for _, kind := range []measure.Kind{1, 2, 4} {
		if e := measure.Check(measure.Op{Kind: kind}); e != api.OK {
			t.Errorf("P15.1: Check of the kind %d, nil = %d", kind, e)
		}
	}
	for _, o := range illOps() {
		if e := measure.Check(o); e != api.ErrOps {
			t.Errorf("P15.1: Check of the kind %d, %d words = %d", o.Kind, len(o.Words), e)
		}
	}
}

func TestWordsExamples(t *testing.T) {
	list := []measure.Op{table(0), thread(0x1000), share(0x2003)}
	words := []uint32{2, 0, 1, 0x1000, 4, 0x2003}
	encodes(t, "example 2", list, words, api.OK)
	decodes(t, "example 2's words", words, list, api.OK)
	measures(t, "example 2", list, sum{0xa0a375d5, 0x3ee7a89f, 0xdacb355f, 0x1153d8e8, 0xe1c28ba5, 0x3cd3efed, 0xe4636e43, 0xb3593044}, api.OK)
	empty := sum{0xe3b0c442, 0x98fc1c14, 0x9afbf4c8, 0x996fb924, 0x27ae41e4, 0x649b934c, 0xa495991b, 0x7852b855}
	for _, none := range [][]measure.Op{nil, {}} {
		encodes(t, "none", none, nil, api.OK)
		measures(t, "none", none, empty, api.OK)
	}
	decodes(t, "nil", nil, nil, api.OK)
	decodes(t, "none", []uint32{}, nil, api.OK)
	decodes(t, "example 3", []uint32{1, 0x1000}, []measure.Op{thread(0x1000)}, api.OK)
	for _, words := range [][]uint32{{1}, {0, 0}, {5, 0}, {3, 1, 7}, {1, 2, 3}} {
		decodes(t, fmt.Sprint(words), words, nil, api.ErrOps)
	}
	decodes(t, "262145 zeros", make([]uint32, most+1), nil, api.ErrLong)
	decodes(t, "262144 zeros", make([]uint32, most), nil, api.ErrOps)
}

// thereAndBack: a list, its words, its sum, and the list of its words.
func thereAndBack(t *testing.T, what string, ops []measure.Op) {
	t.Helper()
	words := plainWords(ops...)
	encodes(t, what, ops, words, api.OK)
	decodes(t, what, words, ops, api.OK)
	measures(t, what, ops, plainSum(words), api.OK)
}

func TestEachOperation(t *testing.T) {
	for _, arg := range []uint32{0, 1, 2, 3, 4, 5, 255, 256, 0x1003, 0x3fffffff, 0x7fffffff, 0x80000000, 0xffffffff} {
		for _, o := range []measure.Op{thread(arg), table(arg), share(arg), data(arg)} {
			thereAndBack(t, fmt.Sprintf("the kind %d, %#x", o.Kind, arg), []measure.Op{o})
		}
	}
	for _, w := range []uint32{0, 1, 3, 0xffffffff} {
		thereAndBack(t, "a page of one word", []measure.Op{{Kind: 3, Words: slices.Repeat([]uint32{w}, 1024)}, thread(w)})
	}
}

func TestRandomLists(t *testing.T) {
	r := rand.New(rand.NewSource(151))
	for range 600 {
		thereAndBack(t, "a random list", someOps(r, 12))
	}
	for range 5 {
		thereAndBack(t, "a long random list", someOps(r, 500))
	}
}

// The bound: of both kinds of size, alone and together. No list has an odd number of words.
func TestBound(t *testing.T) {
	if got := len(plainWords(pages(255)...)); got != 261630 {
		t.Fatalf("255 operations of Data have %d words", got)
	}
	thereAndBack(t, "255 pages", pages(255))
	thereAndBack(t, "131072 threads", threads(most/2))
	thereAndBack(t, "255 pages and 257 threads", slices.Concat(pages(255), threads(257)))
	thereAndBack(t, "257 threads and 255 pages", slices.Concat(threads(257), pages(255)))
	for what, ops := range map[string][]measure.Op{
		"256 pages": pages(256), "1000 pages": pages(1000), "131073 threads": threads(most/2 + 1), "200000 threads": threads(200000),
		"255 pages and 258 threads": slices.Concat(pages(255), threads(258)), "258 threads and 255 pages": slices.Concat(threads(258), pages(255)),
		"130560 threads and a page": append(threads(130560), data(1)),
	} {
		encodes(t, what, ops, nil, api.ErrLong)
		measures(t, what, ops, sum{}, api.ErrLong)
		decodes(t, what, plainWords(ops...), nil, api.ErrLong)
	}
	thereAndBack(t, "130559 threads and a page", append(threads(130559), data(1)))
	ones := slices.Repeat([]uint32{1}, most+1)
	decodes(t, "262145 words that begin well", ones, nil, api.ErrLong)
	decodes(t, "262143 words that begin well", ones[:most-1], nil, api.ErrOps)
}

// One that is none is told ahead of a list that is too long, wherever it stands.
func TestIllOperationInAList(t *testing.T) {
	for _, ill := range illOps() {
		for _, list := range [][]measure.Op{{thread(1)}, {data(1), table(2), share(3)}, pages(256), pages(300)} {
			for _, at := range []int{0, len(list) / 2, len(list) - 1} {
				ops := slices.Clone(list)
				ops[at] = ill
				what := fmt.Sprintf("%d operations of which %d is none", len(ops), at)
				encodes(t, what, ops, nil, api.ErrOps)
				measures(t, what, ops, sum{}, api.ErrOps)
			}
			encodes(t, "a list with one that is none behind it", append(slices.Clone(list), ill), nil, api.ErrOps)
		}
	}
}

// decodesPlainly: holds Decode against the list that is told from the end on.
func decodesPlainly(t *testing.T, what string, words []uint32) {
	t.Helper()
	ops, ok := plainOps(words)
	if !ok {
		decodes(t, what, words, nil, api.ErrOps)
		return
	}
	decodes(t, what, words, ops, api.OK)
	encodes(t, what, ops, words, api.OK)
}

func TestDecodeAllShort(t *testing.T) {
	for n := range 7 {
		words := make([]uint32, n)
		for count := range 1 << (3 * n) {
			for i := range words {
				words[i] = uint32(count >> (3 * i) & 7)
			}
			decodesPlainly(t, "few small words", words)
		}
	}
	for bit := 3; bit < 32; bit++ {
		for kind := range uint32(6) {
			decodes(t, "a high kind", []uint32{kind | 1<<bit, 0}, nil, api.ErrOps)
			decodes(t, "a high kind with a page", append([]uint32{kind | 1<<bit, 0}, make([]uint32, 1024)...), nil, api.ErrOps)
		}
	}
}

// Every beginning of a list's words, and lists with one word changed, put in or taken away.
func TestDecodeNear(t *testing.T) {
	list := plainWords(table(3), data(1), thread(7), measure.Op{Kind: 3, Arg: 2, Words: slices.Repeat([]uint32{1}, 1024)}, share(4))
	for n := range len(list) + 1 {
		decodesPlainly(t, "a list's beginning", list[:n])
	}
	r := rand.New(rand.NewSource(152))
	for range 1500 {
		words := plainWords(someOps(r, 6)...)
		decodesPlainly(t, "one word more", slices.Insert(slices.Clone(words), r.Intn(len(words)+1), r.Uint32()%6))
		if len(words) == 0 {
			continue
		}
		at := r.Intn(len(words))
		decodesPlainly(t, "one word less", slices.Delete(slices.Clone(words), at, at+1))
		words[at] = r.Uint32() % 6
		decodesPlainly(t, "one word changed", words)
	}
}

// No two lists have the same words.
func TestUnlikeListsHaveUnlikeWords(t *testing.T) {
	some := []measure.Op{
		thread(0), thread(1), thread(3), table(0), table(1), share(0), share(1), share(3),
		{Kind: 3, Words: slices.Repeat([]uint32{1}, 1024)}, {Kind: 3, Arg: 1, Words: slices.Repeat([]uint32{1}, 1024)}, {Kind: 3, Words: slices.Repeat([]uint32{3}, 1024)},
	}
	lists := [][]measure.Op{nil}
	for at := 0; len(lists[at]) < 3; at++ {
		for _, o := range some {
			lists = append(lists, append(slices.Clone(lists[at]), o))
		}
	}
	seen := map[string]bool{}
	for _, ops := range lists {
		words, _ := measure.Encode(ops)
		told := strings.Trim(fmt.Sprint(words), "[]")
		if seen[told] {
			t.Fatalf("P15.2: two lists have the words %.60s ..", told)
		}
		seen[told] = true
	}
	if len(seen) != 1+11+11*11+11*11*11 {
		t.Fatalf("%d lists", len(seen))
	}
}
