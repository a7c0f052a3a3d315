package attest_test

import (
	"math/rand"
	"slices"
	"strings"
	"testing"

	"warden/api"
	"warden/attest"
)

func decides(t *testing.T, p attest.Policy, m eight, wantAllow bool, wantName string) {
	t.Helper()
	if allow, name := attest.Decide(p, m); allow != wantAllow || name != wantName {
		t.Errorf("P16.6: Decide of %08x by %d rules, other %v: %v, %.40q; want %v, %.40q", m, len(p.Rules), p.Other, allow, name, wantAllow, wantName)
	}
}

// plainDecide: all rules are gone through from the last on; the first one is asked last.
func plainDecide(p attest.Policy, m eight) (allow bool, name string) {
	allow = p.Other
	for _, r := range slices.Backward(p.Rules) {
		if plainHex(r.Measurement) == plainHex(m) {
			allow, name = r.Allow, r.Name
		}
	}
	return allow, name
}

func TestDecideExamples(t *testing.T) {
	yes, no := attest.Rule{Allow: true, Name: "yes", Measurement: eight{1}}, attest.Rule{Name: "no", Measurement: eight{1}}
	for _, other := range []bool{false, true} {
		decides(t, attest.Policy{Rules: []attest.Rule{yes, no}, Other: other}, eight{1}, true, "yes")
		decides(t, attest.Policy{Rules: []attest.Rule{no, yes}, Other: other}, eight{1}, false, "no")
		decides(t, attest.Policy{Rules: []attest.Rule{yes, no}, Other: other}, eight{2}, other, "")
		decides(t, attest.Policy{Other: other}, eight{}, other, "")
		decides(t, attest.Policy{Rules: []attest.Rule{}, Other: other}, eight{}, other, "")
	}
}

// All 256 bits of a measurement count.
func TestDecideOfOneBit(t *testing.T) {
	for _, m := range sampled() {
		p := attest.Policy{Rules: []attest.Rule{{Allow: true, Name: "a", Measurement: m}}}
		decides(t, p, m, true, "a")
		for bit := range 256 {
			decides(t, p, turned(m, bit), false, "")
		}
	}
}

// Names that are none and any number of rules: nobody looks.
func TestDecideOfAnyPolicy(t *testing.T) {
	for _, name := range illNames() {
		for _, allow := range []bool{false, true} {
			p := attest.Policy{Rules: []attest.Rule{{Allow: allow, Name: name, Measurement: eight{5}}}, Other: !allow}
			decides(t, p, eight{5}, allow, name)
			decides(t, p, eight{6}, !allow, "")
		}
	}
	rules := slices.Repeat([]attest.Rule{{Name: "no", Measurement: eight{1}}}, 100000)
	rules[99999] = attest.Rule{Allow: true, Name: "last", Measurement: eight{2}}
	decides(t, attest.Policy{Rules: rules}, eight{2}, true, "last")
	decides(t, attest.Policy{Rules: rules, Other: true}, eight{3}, true, "")
}

func TestDecideWild(t *testing.T) {
	r := rand.New(rand.NewSource(168))
	for range 3000 {
		p := somePolicy(r, 8)
		asked := []eight{{}, {1}, {2}, {3}, wild(r)}
		for _, rule := range p.Rules {
			asked = append(asked, rule.Measurement)
		}
		for _, m := range asked {
			allow, name := plainDecide(p, m)
			decides(t, p, m, allow, name)
		}
	}
}

func judges(t *testing.T, what string, key eight, p attest.Policy, q attest.Quote, nonce eight, wantName string, wantE api.Errno) {
	t.Helper()
	if name, e := attest.Judge(key, p, q, nonce); name != wantName || e != wantE {
		t.Errorf("P16.7: Judge of %s: %q, %d; want %q, %d", what, name, e, wantName, wantE)
	}
}

// quoted: a right quote.
func quoted(key, m, d eight) attest.Quote {
	return attest.Quote{Measurement: m, Data: d, Tag: plainTag(key, plainBytes(m, d))}
}

func TestJudgeExamples(t *testing.T) {
	key, m, nonce := attest.Key(eight{3}), eight{1, 2, 3}, eight{7: 9}
	p := attest.Policy{Rules: []attest.Rule{{Allow: true, Name: "app", Measurement: m}, {Name: "old", Measurement: eight{4}}}}
	q := quoted(key, m, nonce)
	wrong := q
	wrong.Tag[0] ^= 1
	judges(t, "a right quote", key, p, q, nonce, "app", api.OK)
	judges(t, "another nonce", key, p, q, eight{7: 8}, "", api.ErrNonce)
	judges(t, "another nonce and a wrong tag", key, p, wrong, eight{7: 8}, "", api.ErrTag)
	judges(t, "one that a rule denies", key, p, quoted(key, eight{4}, nonce), nonce, "", api.ErrDenied)
	judges(t, "one that other denies", key, p, quoted(key, eight{5}, nonce), nonce, "", api.ErrDenied)
	p.Other = true
	judges(t, "one that a rule denies, other allows", key, p, quoted(key, eight{4}, nonce), nonce, "", api.ErrDenied)
	judges(t, "one that other allows", key, p, quoted(key, eight{5}, nonce), nonce, "", api.OK)
	judges(t, "no rules", key, attest.Policy{}, q, nonce, "", api.ErrDenied)
	judges(t, "the zero quote", eight{}, attest.Policy{Other: true}, attest.Quote{}, eight{}, "", api.ErrTag)
}

// All eight ways in which three things are right or wrong: the first that is wrong is told.
func TestJudgeOrder(t *testing.T) {
	key, m, nonce := ones(), eight{1}, eight{2}
	for way := range 8 {
		q, asked, p := quoted(key, m, nonce), nonce, attest.Policy{Rules: []attest.Rule{{Allow: true, Name: "app", Measurement: m}}}
		wantName, wantE := "app", api.OK
		if way&1 != 0 {
			p.Rules[0].Allow = false
			wantName, wantE = "", api.ErrDenied
		}
		if way&2 != 0 {
			asked = eight{3}
			wantName, wantE = "", api.ErrNonce
		}
		if way&4 != 0 {
			q.Tag = turned(q.Tag, 255)
			wantName, wantE = "", api.ErrTag
		}
		judges(t, "what is right and wrong", key, p, q, asked, wantName, wantE)
	}
}

func TestJudgeOfOneBit(t *testing.T) {
	key, m, nonce := eight{1}, eight{2}, eight{3}
	all := attest.Policy{Other: true}
	q := quoted(key, m, nonce)
	judges(t, "a right quote", key, all, q, nonce, "", api.OK)
	for bit := range 256 {
		judges(t, "another nonce", key, all, q, turned(nonce, bit), "", api.ErrNonce)
		judges(t, "other data", key, all, attest.Quote{Measurement: m, Data: turned(nonce, bit), Tag: q.Tag}, turned(nonce, bit), "", api.ErrTag)
		judges(t, "another measurement", key, all, attest.Quote{Measurement: turned(m, bit), Data: nonce, Tag: q.Tag}, nonce, "", api.ErrTag)
		judges(t, "another tag", key, all, attest.Quote{Measurement: m, Data: nonce, Tag: turned(q.Tag, bit)}, nonce, "", api.ErrTag)
		judges(t, "another key", turned(key, bit), all, q, nonce, "", api.ErrTag)
	}
}

func TestJudgeOfAnyPolicy(t *testing.T) {
	key := eight{1}
	for _, name := range append(illNames(), strings.Repeat("é", 1000)) {
		p := attest.Policy{Rules: slices.Repeat([]attest.Rule{{Allow: true, Name: name, Measurement: eight{5}}}, 300)}
		judges(t, "a name that is none", key, p, quoted(key, eight{5}, eight{}), eight{}, name, api.OK)
		judges(t, "what no rule has", key, p, quoted(key, eight{6}, eight{}), eight{}, "", api.ErrDenied)
	}
}
