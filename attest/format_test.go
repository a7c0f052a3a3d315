package attest_test

import (
	"fmt"
	"math/rand"
	"slices"
	"strings"
	"testing"

	"warden/api"
	"warden/attest"
)

// plainForm: the text of a policy that has one.
func plainForm(p attest.Policy) string {
	said := func(allow bool) string {
		if allow {
			return "allow"
		}
		return "deny"
	}
	var s strings.Builder
	for _, r := range p.Rules {
		fmt.Fprintf(&s, "%s %s %s\n", said(r.Allow), r.Name, plainHex(r.Measurement))
	}
	return s.String() + "other " + said(p.Other) + "\n"
}

// formsAndReads: the text of a policy that has one, and the policy of that text.
func formsAndReads(t *testing.T, p attest.Policy) {
	t.Helper()
	want := plainForm(p)
	if got, e := attest.FormatPolicy(p); got != want || e != api.OK {
		t.Errorf("P16.5: FormatPolicy of %d rules: %.200q, %d; want %.200q", len(p.Rules), got, e, want)
	}
	if got, line, e := attest.ParsePolicy(want); !samePolicy(got, p) || line != 0 || e != api.OK {
		t.Errorf("P16.5: ParsePolicy of %.200q: %d rules, line %d, %d", want, len(got.Rules), line, e)
	}
}

func hasNoForm(t *testing.T, what string, p attest.Policy) {
	t.Helper()
	if s, e := attest.FormatPolicy(p); s != "" || e != api.ErrPolicy {
		t.Errorf("P16.5: FormatPolicy of %s: %.100q, %d", what, s, e)
	}
}

func TestFormatPolicy(t *testing.T) {
	for _, c := range []struct {
		p    attest.Policy
		want string
	}{
		{attest.Policy{}, "other deny\n"}, {attest.Policy{Other: true}, "other allow\n"}, {attest.Policy{Rules: []attest.Rule{}}, "other deny\n"},
		{attest.Policy{Rules: []attest.Rule{appRule()}}, app + "\nother deny\n"},
		{attest.Policy{Rules: []attest.Rule{{Name: "b", Measurement: eight{0xabcdef01}}, appRule()}, Other: true}, "deny b abcdef01" + strings.Repeat("0", 56) + "\n" + app + "\nother allow\n"},
	} {
		if got, e := attest.FormatPolicy(c.p); got != c.want || e != api.OK {
			t.Errorf("P16.5: FormatPolicy = %q, %d; want %q", got, e, c.want)
		}
		formsAndReads(t, c.p)
	}
}

func TestPoliciesThereAndBack(t *testing.T) {
	r := rand.New(rand.NewSource(167))
	for range 500 {
		formsAndReads(t, somePolicy(r, 12))
	}
	for range 20 {
		formsAndReads(t, somePolicy(r, 256))
	}
	// The longest text that a policy has.
	most := attest.Policy{Rules: slices.Repeat([]attest.Rule{{Allow: true, Name: strings.Repeat("z", 24), Measurement: ones()}}, 256), Other: true}
	formsAndReads(t, most)
}

func TestPoliciesWithoutForm(t *testing.T) {
	for _, n := range []int{257, 258, 512, 1000000} {
		hasNoForm(t, "too many rules", attest.Policy{Rules: slices.Repeat([]attest.Rule{appRule()}, n), Other: true})
	}
	for _, name := range illNames() {
		for _, n := range []int{1, 2, 3, 256, 257} {
			for _, at := range []int{0, n / 2, n - 1} {
				rules := slices.Repeat([]attest.Rule{appRule()}, n)
				rules[at].Name = name
				hasNoForm(t, fmt.Sprintf("%d rules, one with the name %.30q", n, name), attest.Policy{Rules: rules, Other: true})
			}
		}
	}
	rules := slices.Repeat([]attest.Rule{appRule()}, 256)
	formsAndReads(t, attest.Policy{Rules: rules})
}
