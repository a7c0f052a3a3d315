package attest_test

import (
	"slices"
	"strings"
	"testing"
	"unsafe"

	"warden/api"
	"warden/attest"
)

// within: does a text lie in the memory of another?
func within(part, whole string) bool {
	if part == "" || whole == "" {
		return false
	}
	from := uintptr(unsafe.Pointer(unsafe.StringData(whole)))
	at := uintptr(unsafe.Pointer(unsafe.StringData(part)))
	return from <= at && at < from+uintptr(len(whole))
}

func TestRulesAreNewMemory(t *testing.T) {
	for _, n := range []int{0, 1, 2, 3, 7, 256} {
		s := strings.Repeat(app+"\n", n) + "other allow\n"
		want := attest.Policy{Rules: slices.Repeat([]attest.Rule{appRule()}, n), Other: true}
		a, _, _ := attest.ParsePolicy(s)
		b, _, _ := attest.ParsePolicy(s)
		all := a.Rules[:cap(a.Rules)]
		for i := range all {
			if within(all[i].Name, s) {
				t.Fatalf("P16.8: a name of %d rules lies in the text", n)
			}
			all[i] = attest.Rule{Name: "mine"}
		}
		if !samePolicy(b, want) {
			t.Errorf("P16.8: two answers of %d rules share memory", n)
		}
		reads(t, s, want)
	}
}

// roomy: a policy whose list of rules has filled room behind it.
func roomy(rules []attest.Rule) attest.Policy {
	return attest.Policy{Rules: append(slices.Clone(rules), attest.Rule{Name: "x"}, attest.Rule{Allow: true, Name: "y"}, attest.Rule{Name: "Z"})[:len(rules)]}
}

func TestPoliciesHandedInStay(t *testing.T) {
	key, m := eight{1}, eight{7: 7}
	for _, rules := range [][]attest.Rule{nil, {appRule()}, {appRule(), {Name: "A"}}, slices.Repeat([]attest.Rule{appRule()}, 256), slices.Repeat([]attest.Rule{appRule()}, 257)} {
		p, was := roomy(rules), roomy(rules)
		attest.FormatPolicy(p)
		attest.Decide(p, m)
		attest.Decide(p, eight{})
		attest.Judge(key, p, quoted(key, m, eight{}), eight{})
		attest.Judge(key, p, quoted(key, eight{}, eight{}), eight{})
		attest.Judge(key, p, attest.Quote{}, eight{})
		all := len(rules) + 3
		if !slices.Equal(p.Rules[:all], was.Rules[:all]) || p.Other != was.Other {
			t.Errorf("P16.8: a policy of %d rules, or what stands behind them, has changed", len(rules))
		}
	}
}

// What was answered of a policy stays, whatever becomes of its rules; and it is no piece of them.
func TestAnswersKeepNothing(t *testing.T) {
	key, m := eight{1}, eight{7: 7}
	p := attest.Policy{Rules: []attest.Rule{appRule()}}
	form, _ := attest.FormatPolicy(p)
	_, name := attest.Decide(p, m)
	judged, e := attest.Judge(key, p, quoted(key, m, eight{}), eight{})
	if within(name, p.Rules[0].Name) || within(judged, p.Rules[0].Name) {
		t.Error("P16.8: a name that is answered lies in the policy's memory")
	}
	p.Rules[0] = attest.Rule{Name: "other", Measurement: eight{1}}
	if form != app+"\nother deny\n" || name != "app" || judged != "app" || e != api.OK {
		t.Errorf("P16.8: the answers are %q, %q, %q, %d", form, name, judged, e)
	}
	decides(t, p, m, false, "")
	decides(t, p, eight{1}, false, "other")
}

// The same once more, whatever was asked between.
func TestAnswersHangOnArgumentsAlone(t *testing.T) {
	s := app + "\nother allow\n"
	for range 3 {
		reads(t, s, attest.Policy{Rules: []attest.Rule{appRule()}, Other: true})
		refuses(t, "x\n", 1, api.ErrPolicy)
		refuses(t, strings.Repeat(app+"\n", 257), 257, api.ErrPolicy)
		refuses(t, "other allow\nx", 2, api.ErrPolicy)
		reads(t, "other deny", attest.Policy{})
	}
}
