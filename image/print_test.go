package image_test

import (
	"math/rand"
	"slices"
	"strings"
	"testing"

	"warden/api"
	"warden/image"
)

// One line each; of all numbers one form.
func TestPrintedLines(t *testing.T) {
	for _, c := range []struct {
		want  string
		parts []image.Part
	}{
		{"table 0\ntable 9\ntable 255\n", []image.Part{table(0), table(9), table(255)}},
		{"thread 0x00000000\nthread 0xffffffff\nspare\n", []image.Part{thread(0), thread(0xffffffff), spare()}},
		{"table 255\nshare 0x3ffff000 r\nshare 0x3fc00000 rw\n", []image.Part{table(255), share(0x3ffff000, "r"), share(0x3fc00000, "rw")}},
		{"table 0\ndata 0x00000000 r\nend\ndata 0x00001000 rw\nend\ndata 0x00002000 rx\nend\ndata 0x00003000 rwx\nend\n",
			[]image.Part{table(0), data(0, "r"), data(0x1000, "rw"), data(0x2000, "rx"), data(0x3000, "rwx")}},
	} {
		if s, e := image.Print(imageOf(c.parts...)); s != c.want || e != api.OK {
			t.Errorf("P23.3: Print = %q, %d; want %q", s, e, c.want)
		}
		wants(t, true, c.parts...)
	}
}

// Words that are told by small numbers: 1 2 2 is "1 2 2".
func TestPrintedWords(t *testing.T) {
	const a, b, c = " 0x00000001", " 0x00000002", " 0x00000003"
	for want, words := range map[string][]uint32{
		"":                                     {},
		"word" + a:                             {1},
		"word" + a + a + a:                     {1, 1, 1},
		"fill 4" + a:                           {1, 1, 1, 1},
		"fill 5" + a + "|word" + b:             {1, 1, 1, 1, 1, 2},
		"word" + b + "|fill 4" + a:             {2, 1, 1, 1, 1},
		"word" + b + a + a + a + b + a + a + a: {2, 1, 1, 1, 2, 1, 1, 1},
		"word" + a + b + a + b + a + b + a + b + "|word" + a:   {1, 2, 1, 2, 1, 2, 1, 2, 1},
		"word" + a + b + a + b + a + b + c + c + "|word" + c:   {1, 2, 1, 2, 1, 2, 3, 3, 3},
		"word" + a + b + a + b + a + b + c + "|fill 4" + a:     {1, 2, 1, 2, 1, 2, 3, 1, 1, 1, 1},
		"word" + a + b + a + b + a + b + a + b + "|fill 4" + c: {1, 2, 1, 2, 1, 2, 1, 2, 3, 3, 3, 3},
		"word" + a + b + a + b + a + b + "|fill 4" + c:         {1, 2, 1, 2, 1, 2, 3, 3, 3, 3},
		"fill 4" + a + "|fill 4" + b + "|fill 6" + c:           {1, 1, 1, 1, 2, 2, 2, 2, 3, 3, 3, 3, 3, 3},
		"fill 4" + a + "|word" + b + b + b + "|fill 4" + c:     {1, 1, 1, 1, 2, 2, 2, 3, 3, 3, 3},
		"fill 1024" + a:               slices.Repeat([]uint32{1}, 1024),
		"fill 1023" + a + "|word" + b: append(slices.Repeat([]uint32{1}, 1023), 2),
	} {
		lines := strings.ReplaceAll(want, "|", "\n")
		if lines != "" {
			lines += "\n"
		}
		all := "table 0\ndata 0x00001000 rwx\n" + lines + "end\n"
		if s, e := image.Print(imageOf(table(0), data(0x1000, "rwx", words...))); s != all || e != api.OK {
			t.Errorf("P23.3: Print of %v: %q, %d; want %q", words, s, e, all)
		}
	}
}

// All ways in which up to 12 words are alike or not, each of two kinds.
func TestPrintedRuns(t *testing.T) {
	for n := range 13 {
		for way := range 1 << n {
			words := make([]uint32, n)
			for k := range words {
				words[k] = uint32(way >> k & 1)
			}
			prints(t, imageOf(table(0), data(0, "r", words...)))
		}
	}
	r := rand.New(rand.NewSource(233))
	for range 3000 {
		prints(t, imageOf(table(0), data(0, "r", someWords(r)...)))
	}
}

// The longest texts that are ones, and those of one byte more: some five pages of words that are all unlike, and what fills up the rest.
func TestPrintedLength(t *testing.T) {
	page := make([]uint32, 1024)
	for k := range page {
		page[k] = uint32(k)
	}
	var short, long int
	for n := range 1025 {
		parts := []image.Part{table(0)}
		for k := range uint32(5) {
			parts = append(parts, data(k<<12, "r", page...))
		}
		parts = append(parts, data(0x9000, "r", page[:n]...))
		if size := len(plainPrint(parts)); size < 65536-40 || size > 65536 {
			continue
		}
		for _, tail := range tails() {
			all := append(slices.Clone(parts), tail...)
			switch len(plainPrint(all)) {
			case 65535, 65536:
				short++
				holds(t, all)
			case 65537:
				long++
				holds(t, all)
			}
		}
	}
	if short == 0 || long == 0 {
		t.Errorf("P23.3: %d texts came that are as long as may be, %d that are longer by a byte", short, long)
	}
}

// tails: parts that lengthen a text by all that is between 6 and 60 bytes, or so.
func tails() [][]image.Part {
	var all [][]image.Part
	for _, indices := range [][]int{nil, {1}, {10}, {100}, {1, 2}, {1, 10}, {10, 11}, {1, 100}, {10, 100}, {100, 101}} {
		for spares := range 6 {
			var tail []image.Part
			for _, index := range indices {
				tail = append(tail, table(index))
			}
			all = append(all, append(tail, slices.Repeat([]image.Part{spare()}, spares)...))
		}
	}
	return all
}

func TestLongImages(t *testing.T) {
	r := rand.New(rand.NewSource(234))
	parts := []image.Part{table(0)}
	for k := range uint32(61) {
		words := make([]uint32, 1024)
		for i := range words {
			words[i] = r.Uint32()
		}
		parts = append(parts, data(k<<12, "rwx", words...))
	}
	if s, e := image.Print(imageOf(parts...)); s != "" || e != api.ErrLong {
		t.Errorf("P23.3: Print of 61 pages of words: %d bytes, %d", len(s), e)
	}
	wants(t, true, parts...)
}
