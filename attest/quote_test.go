package attest_test

import (
	"math/rand"
	"strings"
	"testing"

	"warden/api"
	"warden/attest"
)

// quotes: whose three parts are unlike, or at their ends.
func quotes() []attest.Quote {
	r := rand.New(rand.NewSource(164))
	all := []attest.Quote{{}, {Measurement: ones(), Data: ones(), Tag: ones()}, {Measurement: eight{7: 1}}, {Data: eight{7: 1}}, {Tag: eight{7: 1}}, {Measurement: eight{0xabcdef01}}}
	for range 30 {
		all = append(all, attest.Quote{Measurement: wild(r), Data: wild(r), Tag: wild(r)})
	}
	return all
}

func TestQuoteExamples(t *testing.T) {
	zeros := strings.Repeat("0", 64)
	want := "quote 1\nmeasurement " + zeros + "\ndata " + zeros + "\ntag " + zeros + "\n"
	got := attest.Format(attest.Quote{})
	if got != want || len(got) != 8+77+70+69 {
		t.Errorf("P16.3: Format of the zero quote is %q", got)
	}
	if q, e := attest.Parse(got); q != (attest.Quote{}) || e != api.OK {
		t.Errorf("P16.3: Parse of the zero quote = %08x, %d", q, e)
	}
	for _, s := range []string{
		got[:len(got)-1], strings.Replace(got, "data 0", "data A", 1), strings.Replace(got, "data ", "data  ", 1), strings.Replace(got, "quote 1", "quote 2", 1),
	} {
		if q, e := attest.Parse(s); q != (attest.Quote{}) || e != api.ErrQuoted {
			t.Errorf("P16.3: Parse(%q) = %08x, %d", s, q, e)
		}
	}
}

func TestQuotesThereAndBack(t *testing.T) {
	for _, q := range quotes() {
		want := plainQuote(q)
		if got := attest.Format(q); got != want {
			t.Errorf("P16.3: Format(%08x) = %q, want %q", q, got, want)
		}
		if got, e := attest.Parse(want); got != q || e != api.OK {
			t.Errorf("P16.3: Parse(%q) = %08x, %d", want, got, e)
		}
	}
}

// Every text that is one byte beside a quote's: changed, taken away, put in; and all beginnings and ends.
func TestParseOneByteBeside(t *testing.T) {
	for _, q := range quotes()[4:8] {
		s := plainQuote(q)
		for at := range len(s) {
			for c := range 256 {
				parsesPlainly(t, s[:at]+string([]byte{byte(c)})+s[at+1:])
			}
			parsesPlainly(t, s[:at]+s[at+1:])
			parsesPlainly(t, s[:at])
			parsesPlainly(t, s[at:])
		}
		for at := range len(s) + 1 {
			for _, c := range "\n\r\t #\"\x0009afgAF" {
				parsesPlainly(t, s[:at]+string(c)+s[at:])
			}
		}
	}
}

func TestParseOtherTexts(t *testing.T) {
	for _, q := range quotes()[4:8] {
		s := plainQuote(q)
		m, d, tag := plainHex(q.Measurement), plainHex(q.Data), plainHex(q.Tag)
		for _, other := range []string{
			"", "\n", "quote 1", "quote 1\n", s + s, s + "\n", "\n" + s, s + " ", " " + s, s + "#", "# x\n" + s, "\xef\xbb\xbf" + s,
			strings.ToUpper(s), strings.ReplaceAll(s, "\n", "\r\n"), strings.ReplaceAll(s, "\n", " "), strings.ReplaceAll(s, " ", "\t"), strings.ReplaceAll(s, " ", "\n"),
			"quote 1\ndata " + d + "\nmeasurement " + m + "\ntag " + tag + "\n",
			"quote 1\nmeasurement " + m + "\ntag " + tag + "\ndata " + d + "\n",
			"quote 1\nmeasurement " + m + "\ndata " + d + "\n",
			"quote 1\nmeasurement 0x" + m[2:] + "\ndata " + d + "\ntag " + tag + "\n",
			"quote 1\nmeasurement " + m + d[:8] + "\ndata " + d[8:] + "\ntag " + tag + "\n",
			"quote 1\nmeasurement " + m[:63] + "\ndata " + d + "0\ntag " + tag + "\n",
			"quote 1\nmeasurement \ndata \ntag \n",
			strings.Repeat("\x00", len(s)), strings.Repeat("0", len(s)), strings.Repeat("é", len(s)/2),
			s[:len(s)-1] + strings.Repeat("0", 1<<20) + "\n", strings.Repeat(s, 10000), strings.Repeat("\n", 1<<20),
		} {
			parsesPlainly(t, other)
			if _, e := attest.Parse(other); e != api.ErrQuoted {
				t.Errorf("P16.3: Parse(%.100q): %d", other, e)
			}
		}
	}
}

// Whatever Parse takes, Format gives again.
func TestParseWild(t *testing.T) {
	r := rand.New(rand.NewSource(165))
	for range 20000 {
		s := []byte(plainQuote(quotes()[2+r.Intn(4)]))
		for range 1 + r.Intn(3) {
			const bytes = "0123456789abcdefgA \n"
			s[r.Intn(len(s))] = bytes[r.Intn(len(bytes))]
		}
		parsesPlainly(t, string(s))
		if q, e := attest.Parse(string(s)); e == api.OK && attest.Format(q) != string(s) {
			t.Fatalf("P16.3: Parse takes %q, which is another quote's text", s)
		}
	}
}
