package attest_test

import (
	"crypto/hmac"
	"crypto/sha256"
	"encoding/binary"
	"fmt"
	"math/rand"
	"regexp"
	"slices"
	"strings"
	"testing"

	"warden/api"
	"warden/attest"
)

type eight = [8]uint32

// wild: eight words without an order.
func wild(r *rand.Rand) eight {
	var w eight
	for i := range w {
		w[i] = r.Uint32()
	}
	return w
}

// ones: eight words of all bits 1.
func ones() eight {
	var w eight
	for i := range w {
		w[i] = 0xffffffff
	}
	return w
}

// turned: with that bit of 256 the other way round.
func turned(w eight, bit int) eight {
	w[bit/32] ^= 1 << (bit % 32)
	return w
}

// plainBytes: of words, each with its highest byte first.
func plainBytes(lists ...eight) []byte {
	var b []byte
	for _, list := range lists {
		for _, w := range list {
			b = binary.BigEndian.AppendUint32(b, w)
		}
	}
	return b
}

// plainWords: of 32 bytes.
func plainWords(b []byte) eight {
	var w eight
	for i := range w {
		w[i] = binary.BigEndian.Uint32(b[4*i:])
	}
	return w
}

// plainTag: HMAC-SHA-256 by the library.
func plainTag(key eight, message []byte) eight {
	h := hmac.New(sha256.New, plainBytes(key))
	h.Write(message)
	return plainWords(h.Sum(nil))
}

// plainHex: the 64 digits of eight words.
func plainHex(w eight) string { return fmt.Sprintf("%x", plainBytes(w)) }

// plainEight: the words of 64 digits that are right.
func plainEight(digits string) eight {
	b := make([]byte, 32)
	if _, err := fmt.Sscanf(digits, "%64x", &b); err != nil {
		panic(err)
	}
	return plainWords(b)
}

// plainQuote: the text of a quote.
func plainQuote(q attest.Quote) string {
	return fmt.Sprintf("quote 1\nmeasurement %s\ndata %s\ntag %s\n", plainHex(q.Measurement), plainHex(q.Data), plainHex(q.Tag))
}

var quoteForm = regexp.MustCompile(`\Aquote 1\nmeasurement ([0-9a-f]{64})\ndata ([0-9a-f]{64})\ntag ([0-9a-f]{64})\n\z`)

// parsesPlainly: holds Parse against the form of the chapter as a pattern.
func parsesPlainly(t *testing.T, s string) {
	t.Helper()
	var want attest.Quote
	wantE := api.ErrQuoted
	if found := quoteForm.FindStringSubmatch(s); found != nil {
		want, wantE = attest.Quote{Measurement: plainEight(found[1]), Data: plainEight(found[2]), Tag: plainEight(found[3])}, api.OK
	}
	if got, e := attest.Parse(s); got != want || e != wantE {
		t.Fatalf("P16.3: Parse(%.300q) = %08x, %d; want %08x, %d", s, got, e, want, wantE)
	}
}

// The lines of a policy: one that says nothing, a rule, other. What follows a # at a word's beginning may be any bytes.
var (
	emptyForm = regexp.MustCompile(`(?s)\A[ \t]*(#.*)?\z`)
	ruleForm  = regexp.MustCompile(`(?s)\A[ \t]*(allow|deny)[ \t]+([a-z][a-z0-9_]{0,23})[ \t]+([0-9a-f]{64})([ \t]*|[ \t]+#.*)\z`)
	otherForm = regexp.MustCompile(`(?s)\A[ \t]*other[ \t]+(allow|deny)([ \t]*|[ \t]+#.*)\z`)
)

// plainPolicy: ParsePolicy by patterns.
func plainPolicy(s string) (p attest.Policy, line int, e api.Errno) {
	if len(s) > 65536 {
		return attest.Policy{}, 0, api.ErrLong
	}
	lines := strings.Split(s, "\n")
	if lines[len(lines)-1] == "" {
		lines = lines[:len(lines)-1]
	}
	ended := false
	for i, text := range lines {
		rule, other := ruleForm.FindStringSubmatch(text), otherForm.FindStringSubmatch(text)
		switch {
		case emptyForm.MatchString(text):
		case rule != nil && !ended && len(p.Rules) < 256:
			p.Rules = append(p.Rules, attest.Rule{Allow: rule[1] == "allow", Name: rule[2], Measurement: plainEight(rule[3])})
		case other != nil && !ended:
			p.Other, ended = other[1] == "allow", true
		default:
			return attest.Policy{}, i + 1, api.ErrPolicy
		}
	}
	if !ended {
		return attest.Policy{}, len(lines) + 1, api.ErrPolicy
	}
	return p, 0, api.OK
}

func samePolicy(a, b attest.Policy) bool { return slices.Equal(a.Rules, b.Rules) && a.Other == b.Other }

// readsPlainly: holds ParsePolicy against the patterns.
func readsPlainly(t *testing.T, s string) {
	t.Helper()
	want, wantLine, wantE := plainPolicy(s)
	got, line, e := attest.ParsePolicy(s)
	if !samePolicy(got, want) || line != wantLine || e != wantE {
		t.Fatalf("P16.4: ParsePolicy(%.400q): %d rules, other %v, line %d, %d; want %d rules, other %v, line %d, %d",
			s, len(got.Rules), got.Other, line, e, len(want.Rules), want.Other, wantLine, wantE)
	}
}

// reads: what ParsePolicy answers of a text that is a policy.
func reads(t *testing.T, s string, want attest.Policy) {
	t.Helper()
	if got, line, e := attest.ParsePolicy(s); !samePolicy(got, want) || line != 0 || e != api.OK {
		t.Errorf("P16.4: ParsePolicy(%.200q): %d rules, other %v, line %d, %d; want %d rules, other %v", s, len(got.Rules), got.Other, line, e, len(want.Rules), want.Other)
	}
}

// refuses: what ParsePolicy answers of a text that is none.
func refuses(t *testing.T, s string, wantLine int, wantE api.Errno) {
	t.Helper()
	if got, line, e := attest.ParsePolicy(s); len(got.Rules) != 0 || got.Other || line != wantLine || e != wantE {
		t.Errorf("P16.4: ParsePolicy(%.200q): %d rules, other %v, line %d, %d; want none, line %d, %d", s, len(got.Rules), got.Other, line, e, wantLine, wantE)
	}
}

// somePolicy: of up to so many rules, of few measurements and of any.
func somePolicy(r *rand.Rand, upTo int) attest.Policy {
	p := attest.Policy{Other: r.Intn(2) == 0}
	for range r.Intn(upTo + 1) {
		rule := attest.Rule{Allow: r.Intn(2) == 0, Name: someName(r), Measurement: eight{uint32(r.Intn(4))}}
		if r.Intn(2) == 0 {
			rule.Measurement = wild(r)
		}
		p.Rules = append(p.Rules, rule)
	}
	return p
}

// someName: of 1 to 24 bytes.
func someName(r *rand.Rand) string {
	const letters = "abcdefghijklmnopqrstuvwxyz"
	const others = letters + "0123456789_"
	name := []byte{letters[r.Intn(len(letters))]}
	for range r.Intn(24) {
		name = append(name, others[r.Intn(len(others))])
	}
	return string(name)
}

// illNames: texts that are no names.
func illNames() []string {
	return []string{"", "A", "App", "1a", "_a", "a-b", "a b", "a\t", " a", "a\n", "#a", "a#", "\"a\"", "aé", "a\x00", "a\xff", "a.b", strings.Repeat("a", 25), strings.Repeat("a", 100000)}
}
