package text_test

import (
	"math/big"
	"math/rand"
	"regexp"
	"strings"
	"testing"

	"warden/api"
	"warden/text"
)

func TestNumberExamples(t *testing.T) {
	for s, want := range map[string]uint32{
		"0": 0, "4294967295": 4294967295, "0x0": 0, "0x00ff": 255, "0xffffffff": 4294967295,
		"1": 1, "9": 9, "10": 10, "4294967289": 4294967289, "999999999": 999999999, "0x00000000": 0, "0x9af": 0x9af, "0x12345678": 0x12345678,
	} {
		if got, e := text.Number(s); e != api.OK || got != want {
			t.Errorf("P4.3: Number(%q) = %d, %d, want %d", s, got, e, want)
		}
	}
	for _, s := range []string{
		"", "00", "01", "4294967296", "0x", "0x123456789", "0xFF", "-1", "+1", " 1",
		"1 ", "1\n", "0X1", "0x0x1", "x1", "1x", "ff", "0b1", "0o7", "1_0", "0x_1", "1.0", "1e3", "0xg", "0x/", "0x:", "0x`", "0x 1", "-0", "0x-1", "0x000000001",
		"9999999999", "10000000000", "18446744073709551616", "18446744073709551617", "\u0661", "1\x00", "/", ":", strings.Repeat("9", 1<<16), "0x" + strings.Repeat("0", 1<<16),
	} {
		if got, e := text.Number(s); e != api.ErrNumber || got != 0 {
			t.Errorf("P4.3: Number of %d bytes, %.30q = %d, %d", len(s), s, got, e)
		}
	}
}

func TestSignedExamples(t *testing.T) {
	for s, want := range map[string]int32{
		"0": 0, "2147483647": 2147483647, "-1": -1, "-2147483648": -2147483648,
		"1": 1, "42": 42, "-10": -10, "-2147483647": -2147483647, "2147483646": 2147483646,
	} {
		if got, e := text.Signed(s); e != api.OK || got != want {
			t.Errorf("P4.4: Signed(%q) = %d, %d, want %d", s, got, e, want)
		}
	}
	for _, s := range []string{
		"-0", "-", "2147483648", "-2147483649", "0x1", "--1",
		"", "-00", "-01", "00", "01", "+1", " 1", "- 1", "-1 ", "1-", "-0x1", "4294967295", "4294967296", "-4294967295", "-4294967296", "-4294967297",
		"-18446744073709551615", "-9223372036854775809", "99999999999999999999", "-" + strings.Repeat("9", 1<<16), "\u22121", "a", "-a",
	} {
		if got, e := text.Signed(s); e != api.ErrNumber || got != 0 {
			t.Errorf("P4.4: Signed of %d bytes, %.30q = %d, %d", len(s), s, got, e)
		}
	}
}

// The forms by patterns, and the number by the library's great numbers.
var (
	tensPat  = regexp.MustCompile(`^(0|[1-9][0-9]*)$`)
	hexPat   = regexp.MustCompile(`^0x[0-9a-f]{1,8}$`)
	minusPat = regexp.MustCompile(`^-[1-9][0-9]*$`)
)

// inside: the number that s is in that base, and whether it lies from lowest to highest.
func inside(s string, base int, lowest, highest int64) (int64, bool) {
	n, ok := new(big.Int).SetString(s, base)
	if !ok || n.Cmp(big.NewInt(lowest)) < 0 || n.Cmp(big.NewInt(highest)) > 0 {
		return 0, false
	}
	return n.Int64(), true
}

func numberByPatterns(s string) (int64, bool) {
	switch {
	case hexPat.MatchString(s):
		return inside(s[2:], 16, 0, 1<<32-1)
	case tensPat.MatchString(s):
		return inside(s, 10, 0, 1<<32-1)
	}
	return 0, false
}

func signedByPatterns(s string) (int64, bool) {
	if tensPat.MatchString(s) || minusPat.MatchString(s) {
		return inside(s, 10, -1<<31, 1<<31-1)
	}
	return 0, false
}

func errorOf(ok bool) api.Errno {
	if ok {
		return api.OK
	}
	return api.ErrNumber
}

func checkNumbers(t *testing.T, s string) {
	t.Helper()
	want, ok := numberByPatterns(s)
	if got, e := text.Number(s); int64(got) != want || e != errorOf(ok) {
		t.Fatalf("P4.3: Number(%q) = %d, %d, want %d", s, got, e, want)
	}
	want, ok = signedByPatterns(s)
	if got, e := text.Signed(s); int64(got) != want || e != errorOf(ok) {
		t.Fatalf("P4.4: Signed(%q) = %d, %d, want %d", s, got, e, want)
	}
}

func TestNumbersOfAllShortTexts(t *testing.T) {
	allTexts("019-xafgA +", 5, func(s string) { checkNumbers(t, s) })
	for c := range 256 {
		b := string([]byte{byte(c)})
		for _, s := range []string{b, "1" + b, b + "1", "0x" + b, "0x" + b + "0", "0x0" + b, "-" + b, "-1" + b, "0" + b + "1"} {
			checkNumbers(t, s)
		}
	}
}

// All around the greatest numbers, and texts that are a digit longer or shorter.
func TestNumbersAtTheEdges(t *testing.T) {
	for _, edge := range []int64{0, 1 << 31, 1 << 32, 1 << 33, 1 << 62, 1e9, 1e10} {
		for d := int64(-40); d <= 40; d++ {
			s := big.NewInt(edge + d).String()
			for _, around := range []string{s, "-" + s, s + "0", "0" + s, s[1:]} {
				checkNumbers(t, around)
			}
		}
	}
}

func TestTextsOfNumbers(t *testing.T) {
	if text.Tens(0) != "0" || text.Hexed(255) != "0x000000ff" || text.Minus(-2147483648) != "-2147483648" || text.Minus(7) != "7" {
		t.Errorf("P4.5: the examples: %s, %s, %s, %s", text.Tens(0), text.Hexed(255), text.Minus(-2147483648), text.Minus(7))
	}
	if text.Tens(4294967295) != "4294967295" || text.Hexed(0x89abcdef) != "0x89abcdef" || text.Hexed(0x01234567) != "0x01234567" || text.Minus(0) != "0" || text.Minus(-1) != "-1" || text.Minus(2147483647) != "2147483647" {
		t.Errorf("P4.5: the edges: %s, %s, %s, %s, %s, %s", text.Tens(4294967295), text.Hexed(0x89abcdef), text.Hexed(0x01234567), text.Minus(0), text.Minus(-1), text.Minus(2147483647))
	}
	if text.Hexed(0) != "0x00000000" || text.Hexed(4294967295) != "0xffffffff" {
		t.Errorf("P4.5: Hexed: %s, %s", text.Hexed(0), text.Hexed(4294967295))
	}
}

func checkTexts(t *testing.T, w uint32) {
	t.Helper()
	tens, hexed, minus := text.Tens(w), text.Hexed(w), text.Minus(int32(w))
	if n, ok := inside(tens, 10, 0, 1<<32-1); !ok || n != int64(w) || !tensPat.MatchString(tens) {
		t.Errorf("P4.5: Tens(%d) = %s", w, tens)
	}
	if n, ok := inside(hexed[2:], 16, 0, 1<<32-1); !ok || n != int64(w) || !hexPat.MatchString(hexed) || len(hexed) != 10 {
		t.Errorf("P4.5: Hexed(%d) = %s", w, hexed)
	}
	if n, ok := signedByPatterns(minus); !ok || n != int64(int32(w)) {
		t.Errorf("P4.5: Minus(%d) = %s", int32(w), minus)
	}
	a, ea := text.Number(tens)
	b, eb := text.Number(hexed)
	c, ec := text.Signed(minus)
	if a != w || b != w || c != int32(w) || ea != api.OK || eb != api.OK || ec != api.OK {
		t.Errorf("P4.5: of the texts of %d Number and Signed tell %d, %d, %d (%d, %d, %d)", w, a, b, c, ea, eb, ec)
	}
}

func TestTextsOfManyNumbers(t *testing.T) {
	for i := range 32 {
		for d := uint32(0); d < 3; d++ {
			checkTexts(t, 1<<i-1+d)
			checkTexts(t, -(1<<i - 1 + d))
		}
	}
	for p := uint32(1); p < 1e9; p *= 10 {
		checkTexts(t, p-1)
		checkTexts(t, p)
		checkTexts(t, -p)
	}
	r := rand.New(rand.NewSource(4))
	for range 20000 {
		checkTexts(t, r.Uint32()>>r.Intn(32))
	}
}
