package text_test

import (
	"regexp"
	"slices"
	"strconv"
	"strings"
	"testing"

	"warden/api"
	"warden/text"
)

func plain(s string, col int) text.Word  { return text.Word{Text: s, Col: col} }
func quoted(s string, col int) text.Word { return text.Word{Text: s, Quoted: true, Col: col} }

func TestWordsExamples(t *testing.T) {
	for _, c := range []struct {
		line string
		want []text.Word
	}{
		{"  let\tr1  0x2 # x", []text.Word{plain("let", 3), plain("r1", 7), plain("0x2", 11)}},
		{`a#b "c d"`, []text.Word{plain("a#b", 1), quoted("c d", 5)}},
		{"#", nil},
		{"", nil},
		{`"\x0a"`, []text.Word{quoted("\n", 1)}},
		{`""`, []text.Word{quoted("", 1)}},
		{`a"b"`, []text.Word{plain(`a"b"`, 1)}},
		{" \t \t", nil},
		{"\ta\t", []text.Word{plain("a", 2)}},
		{`a # "b`, []text.Word{plain("a", 1)}},
		{`"a" #"`, []text.Word{quoted("a", 1)}},
		{`"#" "" b"`, []text.Word{quoted("#", 1), quoted("", 5), plain(`b"`, 8)}},
		{"a\nb\r \v", []text.Word{plain("a\nb\r", 1), plain("\v", 6)}},
		{"\xff\xc3\u00a0x \x00", []text.Word{plain("\xff\xc3\u00a0x", 1), plain("\x00", 7)}},
		{`\ \x41`, []text.Word{plain(`\`, 1), plain(`\x41`, 3)}},
		{`"\x22\x5c\x00\xff"` + "\tz", []text.Word{quoted("\"\\\x00\xff", 1), plain("z", 20)}},
	} {
		if got, col, e := text.Words(c.line); e != api.OK || col != 0 || !slices.Equal(got, c.want) {
			t.Errorf("P4.2: Words(%q) = %+v, %d, %d, want %+v", c.line, got, col, e, c.want)
		}
	}
}

func TestWordsBrokenQuotes(t *testing.T) {
	for _, c := range []struct {
		line string
		col  int
	}{
		{`x "ab`, 6},
		{`"a"b`, 4},
		{`"\x4g"`, 2},
		{`"\x41"`, 2},
		{"\"a\tb\"", 3},
		{`"\"`, 2},
		{`"`, 2},
		{`a b "`, 6},
		{`""""`, 3},
		{`""#`, 3},
		{`"a"\`, 4},
		{"\"a\"\n", 4},
		{"\"a\n", 3},
		{"\"a\nb\\\"", 3},
		{`"ab\`, 4},
		{`"ab\x`, 4},
		{`"ab\x0`, 4},
		{`"ab\x0a`, 8},
		{`"\X0a"`, 2},
		{`"\x0A"`, 2},
		{`"\xA0"`, 2},
		{`"\xg0"`, 2},
		{`"\x20"`, 2},
		{`"\x7e"`, 2},
		{`"\n"`, 2},
		{`"\\"`, 2},
		{`"\x"00"`, 2},
		{`"\x0"0"`, 2},
		{"\"\x7f\"", 2},
		{"\"\x1f\"", 2},
		{"\"\xff\"", 2},
		{`"ok" x "b` + "\t", 10},
		{`"a b # c`, 9},
	} {
		if got, col, e := text.Words(c.line); e != api.ErrQuote || col != c.col || len(got) != 0 {
			t.Errorf("P4.2: Words(%q) = %+v, %d, %d, want the column %d", c.line, got, col, e, c.col)
		}
	}
}

// What stands ahead in a quoted form without a fault; the rest of a line by the chapter's words as patterns.
var (
	gaps      = regexp.MustCompile(`^[ \t]+`)
	quotedPat = regexp.MustCompile(`^"((?:[ !#-\[\]-~]|\\x[0-9a-f]{2})*)`)
	plainPat  = regexp.MustCompile(`^[^ \t]+`)
	escapePat = regexp.MustCompile(`\\x..`)
)

// byPatterns: Words again, by patterns. The lines have no bytes above 0x7f.
func byPatterns(line string) (words []text.Word, col int) {
	at := 0
	for {
		at += len(gaps.FindString(line[at:]))
		rest := line[at:]
		if rest == "" || rest[0] == '#' {
			return words, 0
		}
		if rest[0] != '"' {
			s := plainPat.FindString(rest)
			words = append(words, plain(s, at+1))
			at += len(s)
			continue
		}
		inside := quotedPat.FindStringSubmatch(rest)[1]
		for _, place := range escapePat.FindAllStringIndex(inside, -1) {
			if v, _ := strconv.ParseUint(inside[place[0]+2:place[1]], 16, 8); v >= 0x20 && v <= 0x7e && v != '"' && v != '\\' {
				return nil, at + 1 + place[0] + 1
			}
		}
		end := 1 + len(inside)
		if end == len(rest) || rest[end] != '"' {
			return nil, at + end + 1
		}
		end++
		if end < len(rest) && !strings.ContainsRune(" \t", rune(rest[end])) {
			return nil, at + end + 1
		}
		s, err := strconv.Unquote(rest[:end])
		if err != nil {
			panic(err)
		}
		words = append(words, quoted(s, at+1))
		at += end
	}
}

func checkWords(t *testing.T, line string) {
	t.Helper()
	want, wantCol := byPatterns(line)
	wantE := api.OK
	if wantCol != 0 {
		wantE = api.ErrQuote
	}
	if got, col, e := text.Words(line); e != wantE || col != wantCol || !slices.Equal(got, want) {
		t.Fatalf("P4.2: Words(%q) = %+v, %d, %d, want %+v, %d", line, got, col, e, want, wantCol)
	}
}

func TestWordsOfAllShortLines(t *testing.T) {
	allTexts(" \t#\"\\xa\n", 6, func(line string) { checkWords(t, line) })
	allTexts(" \"\\x024g", 6, func(line string) { checkWords(t, line) })
}

func TestWordsOfAllQuotedInsides(t *testing.T) {
	allTexts(" \"\\x25cA", 5, func(inside string) {
		checkWords(t, `a "`+inside+`" #`)
		checkWords(t, `"\x`+inside+`"`)
	})
}

// Each byte: alone, in a word, inside quotes, behind them, behind a backslash, as a digit, and as what the digits stand for.
func TestWordsEachByte(t *testing.T) {
	for c := range 256 {
		b := string([]byte{byte(c)})
		form := text.Quote([]byte(b))
		if got, _, e := text.Words("a " + form + " b"); e != api.OK || !slices.Equal(got, []text.Word{plain("a", 1), quoted(b, 3), plain("b", 4+len(form))}) {
			t.Errorf("P4.2: Words with the quoted byte 0x%02x: %+v, %d", c, got, e)
		}
		if c == ' ' || c == '\t' {
			continue
		}
		if got, _, e := text.Words("a" + b + "c d"); e != api.OK || !slices.Equal(got, []text.Word{plain("a"+b+"c", 1), plain("d", 5)}) {
			t.Errorf("P4.2: Words with the byte 0x%02x in a word: %+v, %d", c, got, e)
		}
		if got, col, e := text.Words(`"a"` + b); e != api.ErrQuote || col != 4 || len(got) != 0 {
			t.Errorf("P4.2: Words with the byte 0x%02x behind a quoted word: %+v, %d, %d", c, got, col, e)
		}
		_, col, e := text.Words(`"a` + b + `"`)
		if form == `"`+b+`"` && (e != api.OK || col != 0) {
			t.Errorf("P4.2: Words with the byte 0x%02x in quotes: %d, %d", c, col, e)
		}
		if want := 3; form != `"`+b+`"` && c != '"' && (e != api.ErrQuote || col != want) {
			t.Errorf("P4.2: Words with the byte 0x%02x in quotes: %d, %d, want the column %d", c, col, e, want)
		}
		for _, line := range []string{`"a\x0` + b + `"`, `"a\x` + b + `0"`} {
			hex := strings.IndexByte("0123456789abcdef", byte(c)) >= 0
			own := line == `"a\x`+b+`0"` && strings.IndexByte("234567", byte(c)) >= 0
			_, col, e := text.Words(line)
			if may := hex && !own; may != (e == api.OK) || !may && col != 3 {
				t.Errorf("P4.2: Words(%q): %d, %d", line, col, e)
			}
		}
	}
}

func TestWordsOfLongLines(t *testing.T) {
	const many = 1 << 20
	if got, col, e := text.Words(strings.Repeat("a", many)); e != api.OK || col != 0 || len(got) != 1 || len(got[0].Text) != many {
		t.Errorf("P4.2: Words of one long word: %d words, %d, %d", len(got), col, e)
	}
	if got, col, e := text.Words(strings.Repeat("a ", many)); e != api.OK || col != 0 || len(got) != many || got[many-1] != plain("a", 2*many-1) {
		t.Errorf("P4.2: Words of many words: %d words, %d, %d", len(got), col, e)
	}
	if got, col, e := text.Words(`"` + strings.Repeat(`\x00`, many) + `"`); e != api.OK || col != 0 || len(got) != 1 || got[0] != quoted(strings.Repeat("\x00", many), 1) {
		t.Errorf("P4.2: Words of one long quoted word: %d words, %d, %d", len(got), col, e)
	}
	if got, col, e := text.Words(`"` + strings.Repeat("a", many)); e != api.ErrQuote || col != many+2 || len(got) != 0 {
		t.Errorf("P4.2: Words of a long word without its closing quote: %d words, %d, %d", len(got), col, e)
	}
}

func TestWordsAreNewMemory(t *testing.T) {
	line := strings.Clone(`one "two" three`)
	a, _, _ := text.Words(line)
	b, _, _ := text.Words(line)
	for _, w := range a {
		if within(w.Text, line) {
			t.Errorf("rule 5: the word %q lies in the line", w.Text)
		}
	}
	a[0].Text = "other"
	_ = append(a, text.Word{})
	if want := []text.Word{plain("one", 1), quoted("two", 5), plain("three", 11)}; !slices.Equal(b, want) {
		t.Errorf("rule 5: another answer became %+v", b)
	}
}
