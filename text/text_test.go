package text_test

import (
	"slices"
	"strings"
	"testing"
	"unsafe"

	"warden/api"
	"warden/text"
)

// allTexts: every text of up to most bytes of the alphabet.
func allTexts(alphabet string, most int, each func(s string)) {
	var grow func(s []byte)
	grow = func(s []byte) {
		each(string(s))
		if len(s) < most {
			for i := range len(alphabet) {
				grow(append(s, alphabet[i]))
			}
		}
	}
	grow(make([]byte, 0, most))
}

// within: does a text lie in the memory of another?
func within(part, whole string) bool {
	if part == "" || whole == "" {
		return false
	}
	from := uintptr(unsafe.Pointer(unsafe.StringData(whole)))
	at := uintptr(unsafe.Pointer(unsafe.StringData(part)))
	return from <= at && at < from+uintptr(len(whole))
}

// linesByByte: Lines again, byte by byte.
func linesByByte(s string) (lines []string) {
	line := ""
	for i := range len(s) {
		if s[i] == 10 {
			lines = append(lines, line)
			line = ""
			continue
		}
		line += s[i : i+1]
	}
	if line != "" {
		lines = append(lines, line)
	}
	return lines
}

func TestLinesExamples(t *testing.T) {
	for _, c := range []struct {
		s    string
		want []string
	}{
		{"a\n\nb", []string{"a", "", "b"}},
		{"\n", []string{""}},
		{"", nil},
		{"a\n", []string{"a"}},
		{"a", []string{"a"}},
		{"a\r\nb\r", []string{"a\r", "b\r"}},
		{"\n\n\n", []string{"", "", ""}},
		{"\n a", []string{"", " a"}},
		{"\xff\xc3\n\x00\n", []string{"\xff\xc3", "\x00"}},
	} {
		if got, e := text.Lines(c.s); e != api.OK || !slices.Equal(got, c.want) {
			t.Errorf("P4.1: Lines(%q) = %q, %d, want %q", c.s, got, e, c.want)
		}
	}
}

func TestLinesOfAllShortTexts(t *testing.T) {
	allTexts("\na\r\x85\u2028", 5, func(s string) {
		if got, e := text.Lines(s); e != api.OK || !slices.Equal(got, linesByByte(s)) {
			t.Fatalf("P4.1: Lines(%q) = %q, %d, want %q", s, got, e, linesByByte(s))
		}
	})
}

func TestLinesBound(t *testing.T) {
	for _, unit := range []string{"a", "\n", "\xff"} {
		whole := strings.Repeat(unit, api.MaxText)
		want := 1
		if unit == "\n" {
			want = api.MaxText
		}
		if got, e := text.Lines(whole); e != api.OK || len(got) != want {
			t.Errorf("P4.1: Lines of %d times %q: %d lines, %d", api.MaxText, unit, len(got), e)
		}
		for _, more := range []string{"\n", "a", "\n\n"} {
			if got, e := text.Lines(whole + more); e != api.ErrLong || len(got) != 0 {
				t.Errorf("P4.1: Lines of %d times %q and %q: %d lines, %d", api.MaxText, unit, more, len(got), e)
			}
		}
	}
}

func TestLinesAreNewMemory(t *testing.T) {
	s := strings.Repeat("line\n", 3)
	a, _ := text.Lines(s)
	b, _ := text.Lines(s)
	for _, line := range a {
		if within(line, s) {
			t.Errorf("rule 5: the line %q lies in the text", line)
		}
	}
	a[0] = "other"
	_ = append(a, "more")
	if want := []string{"line", "line", "line"}; !slices.Equal(b, want) || s != "line\nline\nline\n" {
		t.Errorf("rule 5: another answer became %q", b)
	}
}

func TestNameExamples(t *testing.T) {
	for _, s := range []string{"a", "a_1", "z", "a0", "a9", "az", "a_", "z__9", "a" + strings.Repeat("7", 23), strings.Repeat("b", 24)} {
		if e := text.Name(s); e != api.OK {
			t.Errorf("P4.6: Name(%q) = %d", s, e)
		}
	}
	for _, s := range []string{"", "A", "1a", "_a", "a-b", strings.Repeat("a", 25), "a" + strings.Repeat("7", 24), " a", "a ", "a\n", "a\x00", "\u00e9", "a\u00e9", strings.Repeat("a", 1<<20)} {
		if e := text.Name(s); e != api.ErrName {
			t.Errorf("P4.6: Name of %d bytes, %.30q = %d", len(s), s, e)
		}
	}
}

// Each byte at the first place, at a middle one and at the last one.
func TestNameEachByte(t *testing.T) {
	const first = "abcdefghijklmnopqrstuvwxyz"
	const others = first + "0123456789_"
	for c := range 256 {
		b := string([]byte{byte(c)})
		for _, place := range []struct{ s, may string }{
			{b, first}, {b + "a", first}, {b + strings.Repeat("a", 23), first},
			{"a" + b, others}, {"a" + b + "a", others}, {strings.Repeat("a", 23) + b, others},
		} {
			want := api.ErrName
			if strings.IndexByte(place.may, byte(c)) >= 0 {
				want = api.OK
			}
			if e := text.Name(place.s); e != want {
				t.Errorf("P4.6: Name(%q) = %d, want %d", place.s, e, want)
			}
		}
	}
}
