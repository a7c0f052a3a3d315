package text_test

import (
	"bytes"
	"slices"
	"strings"
	"testing"

	"warden/api"
	"warden/text"
)

func TestQuoteExamples(t *testing.T) {
	for _, c := range []struct {
		b    []byte
		form string
	}{
		{[]byte{'a', '"', 'b', '\\'}, `"a\x22b\x5c"`},
		{[]byte{0xc3}, `"\xc3"`},
		{nil, `""`},
		{[]byte{}, `""`},
		{[]byte(" !~"), `" !~"`},
		{[]byte{0x1f, 0x20, 0x7e, 0x7f}, `"\x1f ~\x7f"`},
		{[]byte{0, 9, 10, 13, 0xff}, `"\x00\x09\x0a\x0d\xff"`},
		{[]byte(`\x41`), `"\x5cx41"`},
		{[]byte("# '[]"), `"# '[]"`},
	} {
		if got := text.Quote(c.b); got != c.form {
			t.Errorf("P4.7: Quote(%q) = %s, want %s", c.b, got, c.form)
		}
		if got, e := text.Unquote(c.form); e != api.OK || !bytes.Equal(got, c.b) {
			t.Errorf("P4.7: Unquote(%s) = %q, %d, want %q", c.form, got, e, c.b)
		}
	}
}

func TestUnquoteOfWhatIsNoForm(t *testing.T) {
	for _, s := range []string{
		``, `"`, `a`, `"a`, `"a"b"`, `"\x2"`, `"\x61"`, `"\xC3"`,
		`a"`, `a"b"`, ` "a"`, `"a" `, "\"a\"\n", `"a""b"`, `""""`, `"""`, `'a'`,
		`"\"`, `"\\"`, `"\"a"`, `"\x"`, `"\x0`, `"\x00`, `"\x0g"`, `"\xg0"`, `"\X00"`, `"\n"`, `"\x20"`, `"\x7e"`,
		"\"\n\"", "\"\t\"", "\"\x7f\"", "\"\x00\"", "\"\xff\"", "\"\u00e9\"", "\xff", "#",
	} {
		if got, e := text.Unquote(s); e != api.ErrQuote || len(got) != 0 {
			t.Errorf("P4.7: Unquote(%q) = %q, %d", s, got, e)
		}
	}
}

// Of each two bytes: Quote's length tells that each has one form alone, and Unquote takes it back.
func TestQuoteOfAllPairs(t *testing.T) {
	size := func(c int) int {
		if c >= 0x20 && c <= 0x7e && c != 0x22 && c != 0x5c {
			return 1
		}
		return 4
	}
	for x := range 256 {
		for y := range 256 {
			b := []byte{byte(x), byte(y)}
			form := text.Quote(b)
			if len(form) != 2+size(x)+size(y) {
				t.Fatalf("P4.7: Quote(%q) = %s", b, form)
			}
			if got, e := text.Unquote(form); e != api.OK || !bytes.Equal(got, b) {
				t.Fatalf("P4.7: Unquote(%s) = %q, %d", form, got, e)
			}
		}
	}
}

// Every text that Unquote takes is what Quote gives of the answer; and no other is.
func TestUnquoteOfAllShortTexts(t *testing.T) {
	allTexts("\"\\x07aA\n", 7, func(s string) {
		b, e := text.Unquote(s)
		if e == api.OK && text.Quote(b) != s || e != api.OK && (e != api.ErrQuote || len(b) != 0) {
			t.Fatalf("P4.7: Unquote(%q) = %q, %d", s, b, e)
		}
	})
	allTexts("\"\\x07aA\n\x00\x70\xaa", 3, func(s string) {
		form := text.Quote([]byte(s))
		if b, e := text.Unquote(form); e != api.OK || string(b) != s {
			t.Fatalf("P4.7: Unquote(%s) = %q, %d, want %q", form, b, e, s)
		}
	})
}

func TestQuoteOfManyBytes(t *testing.T) {
	b := slices.Repeat([]byte{'a', 0, '"'}, 1<<20)
	form := text.Quote(b)
	if form != `"`+strings.Repeat(`a\x00\x22`, 1<<20)+`"` {
		t.Errorf("P4.7: Quote of %d bytes: %d bytes", len(b), len(form))
	}
	if got, e := text.Unquote(form); e != api.OK || !bytes.Equal(got, b) {
		t.Errorf("P4.7: Unquote of %d bytes: %d bytes, %d", len(form), len(got), e)
	}
}

func TestQuoteLeavesWhatIsHandedIn(t *testing.T) {
	whole := []byte{'a', 0, 'b', 'c', 'd'}
	form := text.Quote(whole[:2])
	whole[0] = 'z'
	if form != `"a\x00"` || !bytes.Equal(whole, []byte{'z', 0, 'b', 'c', 'd'}) {
		t.Errorf("rule 5: Quote = %s, its argument with what stands behind became %q", form, whole)
	}
	a, _ := text.Unquote(form)
	b, _ := text.Unquote(form)
	a[0] = 'y'
	_ = append(a, 'x')
	if !bytes.Equal(b, []byte{'a', 0}) {
		t.Errorf("rule 5: another answer of Unquote became %q", b)
	}
}
