package word_test

import (
	"fmt"
	"slices"
	"strings"
	"testing"

	"warden/api"
	"warden/word"
)

func TestHex(t *testing.T) {
	if s := word.Hex(0xabc); s != "00000abc" {
		t.Errorf("P1.3: Hex(0xabc) = %q", s)
	}
	for _, w := range samples() {
		want := fmt.Sprintf("%08x", w)
		if s := word.Hex(w); s != want {
			t.Errorf("P1.3: Hex(%#x) = %q", w, s)
		}
		if got, e := word.ParseHex(want); got != w || e != api.OK {
			t.Errorf("P1.3: ParseHex(%q) = %#x, %d", want, got, e)
		}
	}
}

func TestParseHexTakesEveryDigitAtEveryPlace(t *testing.T) {
	for place := range 8 {
		for c := range 256 {
			b := []byte("00000000")
			b[place] = byte(c)
			at := strings.IndexByte("0123456789abcdef", byte(c))
			w, e := word.ParseHex(string(b))
			if at < 0 && (w != 0 || e != api.ErrHex) {
				t.Errorf("P1.3: ParseHex(%q) = %#x, %d, want ErrHex", b, w, e)
			}
			if want := uint32(at) << (28 - 4*place); at >= 0 && (w != want || e != api.OK) {
				t.Errorf("P1.3: ParseHex(%q) = %#x, %d, want %#x", b, w, e, want)
			}
		}
	}
}

func TestParseHexRefuses(t *testing.T) {
	for _, s := range []string{"00000ABC", "abc", "0x000abc", "000000abc", "", "0", "0000abc", " 0000abc", "0000abc ", "+0000abc", "-0000abc", "0000_abc", "0000abc\n", "00000abc\n", "00000abc00000abc", "é000abc", "fffffff\xff"} {
		if w, e := word.ParseHex(s); w != 0 || e != api.ErrHex {
			t.Errorf("P1.3: ParseHex(%q) = %#x, %d, want 0, ErrHex", s, w, e)
		}
	}
}

func TestHexAll(t *testing.T) {
	for _, c := range []struct {
		words []uint32
		want  string
	}{
		{[]uint32{1, 0xffffffff}, "00000001ffffffff"}, {[]uint32{0xabcdef01}, "abcdef01"}, {[]uint32{}, ""}, {nil, ""},
	} {
		if s := word.HexAll(c.words); s != c.want {
			t.Errorf("P1.4: HexAll(%#x) = %q", c.words, s)
		}
		if w, e := word.ParseAll(c.want); e != api.OK || !slices.Equal(w, c.words) {
			t.Errorf("P1.4: ParseAll(%q) = %#x, %d", c.want, w, e)
		}
	}
	list := samples()
	if w, e := word.ParseAll(word.HexAll(list)); e != api.OK || !slices.Equal(w, list) {
		t.Errorf("P1.4: ParseAll(HexAll(%#x)) = %#x, %d", list, w, e)
	}
}

func TestHexAllHasNoBound(t *testing.T) {
	long := make([]uint32, api.MaxWords+1)
	long[api.MaxWords] = 0xa1b2c3d4
	s := word.HexAll(long)
	if len(s) != 8*len(long) || !strings.HasSuffix(s, "00a1b2c3d4") {
		t.Errorf("P1.4: HexAll of %d words: %d digits, ending in %q", len(long), len(s), s[max(0, len(s)-10):])
	}
}

func TestParseAllErrors(t *testing.T) {
	const most = 8 * api.MaxWords
	for _, c := range []struct {
		name, s string
		want    api.Errno
	}{
		{"the first nine digits of two words", "00000001f", api.ErrHex},
		{"one digit", "0", api.ErrHex},
		{"seven digits", "0000000", api.ErrHex},
		{"fifteen digits", "00000001fffffff", api.ErrHex},
		{"a capital", "00000001FFFFFFFF", api.ErrHex},
		{"a wrong digit in the first word", "g0000001ffffffff", api.ErrHex},
		{"a wrong digit at the end", "00000001fffffffg", api.ErrHex},
		{"a blank between", "00000001 ffffffff", api.ErrHex},
		{"two prefixes", "0x0000010x000001", api.ErrHex},
		{"as many as may be", strings.Repeat("9", most), api.OK},
		{"as many, the last one wrong", strings.Repeat("9", most-1) + "x", api.ErrHex},
		{"one digit less than as many", strings.Repeat("9", most-1), api.ErrHex},
		// Beyond the bound ErrLong stands first, digits or not.
		{"one digit more", strings.Repeat("9", most+1), api.ErrLong},
		{"one word more", strings.Repeat("9", most+8), api.ErrLong},
		{"too long and no digits", strings.Repeat("x", most+8), api.ErrLong},
	} {
		w, e := word.ParseAll(c.s)
		if e != c.want {
			t.Errorf("P1.4: ParseAll of %s: error %d, want %d", c.name, e, c.want)
		}
		if c.want == api.OK && len(w) != len(c.s)/8 || c.want != api.OK && len(w) != 0 {
			t.Errorf("P1.4: ParseAll of %s: %d words", c.name, len(w))
		}
	}
}
