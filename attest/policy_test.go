package attest_test

import (
	"fmt"
	"math/rand"
	"strings"
	"testing"

	"warden/api"
	"warden/attest"
)

var (
	zeros = strings.Repeat("0", 63)
	app   = "allow app " + zeros + "7"
)

func appRule() attest.Rule { return attest.Rule{Allow: true, Name: "app", Measurement: eight{7: 7}} }

func TestPolicyExamples(t *testing.T) {
	one := attest.Policy{Rules: []attest.Rule{appRule()}}
	reads(t, app+"\nother deny\n", one)
	reads(t, "# a comment\n\n"+app+"\n\n \t\n# another\nother deny\n", one)
	reads(t, app+"\nother deny", one)
	refuses(t, app+"\n", 2, api.ErrPolicy)
	refuses(t, "other deny\nother deny\n", 2, api.ErrPolicy)
	refuses(t, "", 1, api.ErrPolicy)
	for _, s := range []string{
		"allow \"app\" " + zeros + "7", "allow App " + zeros + "7", "allow app " + zeros, "allow app " + zeros + "7 x",
	} {
		refuses(t, s+"\nother deny\n", 1, api.ErrPolicy)
	}
}

func TestPolicyOfEachVerdict(t *testing.T) {
	for _, other := range []bool{false, true} {
		for _, allow := range []bool{false, true} {
			said := map[bool]string{false: "deny", true: "allow"}
			s := said[allow] + " a " + zeros + "1\nother " + said[other] + "\n"
			reads(t, s, attest.Policy{Rules: []attest.Rule{{Allow: allow, Name: "a", Measurement: eight{7: 1}}}, Other: other})
		}
		reads(t, fmt.Sprintf("other %s", map[bool]string{false: "deny", true: "allow"}[other]), attest.Policy{Other: other})
	}
}

// rightLines, wrongLines: of a policy, each by itself; of the wrong ones some are not taken by text.Words.
func rightLines() []string {
	return []string{
		app, "deny a " + zeros + "1", "allow other " + zeros + "1", "deny allow " + zeros + "2", "allow deny " + zeros + "3", "\t allow\t\tb  " + zeros + "4 \t", "allow c " + zeros + "5 # \"open", "allow c " + zeros + "5 ##",
		"allow " + strings.Repeat("z", 24) + " " + strings.Repeat("f", 64), "deny a_1 " + strings.Repeat("0123456789abcdef", 4),
	}
}
func emptyLines() []string {
	return []string{"", " ", "\t", " \t ", "#", "# \"", "  # other deny", "#\xff\x00\r"}
}
func wrongLines() []string {
	return []string{
		"x", "allow", "deny", "allow app", "deny app", app + " x", app + " \"\"", app + "#", app + "0", app + "\r", "\r", "\x00", "\v", "é", "allow app " + zeros, "allow app " + zeros + "A", "allow app " + zeros + "g", "allow app " + zeros + "77777777 7",
		"allow app 0x" + zeros[:62], "allow app " + zeros[:56], "allow app " + strings.Repeat("0", 72), "allow app " + strings.Repeat("0", 128), "allow app " + strings.Repeat("0", 8), "allow app", "allow app \"\"", "allow app " + zeros[:31] + " " + zeros[:32],
		"Allow app " + zeros + "7", "take app " + zeros + "7", "allows app " + zeros + "7", "\"allow\" app " + zeros + "7", "allow \"app\" " + zeros + "7", "allow app \"" + zeros + "7\"", "allow " + zeros + "7 app", "app allow " + zeros + "7", "other app " + zeros + "7",
		"allow App " + zeros + "7", "allow 1 " + zeros + "7", "allow _ " + zeros + "7", "allow a-b " + zeros + "7", "allow " + strings.Repeat("a", 25) + " " + zeros + "7", "allow #app " + zeros + "7", "# x\x00\nallow",
		"other", "other other", "other maybe", "other Allow", "Other allow", "other allow deny", "other allow x", "other \"allow\"", "\"other\" allow", "other allow#", "others allow", "allow other", "deny allow", "other\vallow", "other,allow", "other #allow",
		"\"", "\"x", "other allow \"", "other allow \"a\"b", "\"\\x41\"", app + " \"\\", "\"allow\"app", "other \"deny\"",
	}
}

func TestRightLines(t *testing.T) {
	for _, a := range rightLines() {
		for _, b := range emptyLines() {
			s := a + "\n" + b + "\n" + a + "\n" + b + "\nother allow\n" + b
			readsPlainly(t, s)
			if p, line, e := attest.ParsePolicy(s); len(p.Rules) != 2 || !p.Other || line != 0 || e != api.OK {
				t.Errorf("P16.4: ParsePolicy(%q): %d rules, line %d, %d", s, len(p.Rules), line, e)
			}
		}
	}
}

// A wrong line at every place, with a second wrong one behind it: the first one is told.
func TestWrongLines(t *testing.T) {
	for _, wrong := range wrongLines() {
		first := strings.Count(wrong, "\n") // one of them has a right line ahead
		for _, ahead := range [][]string{nil, {""}, {app}, {app, "", "# x"}, rightLines(), {"other deny"}, {app, "other allow", ""}} {
			lines := append(append([]string{}, ahead...), wrong)
			for _, behind := range [][]string{nil, {""}, {"other deny"}, {app, "other deny"}, {"\""}, {"x"}} {
				s := strings.Join(append(append([]string{}, lines...), behind...), "\n") + "\n"
				refuses(t, s, len(lines)+first, api.ErrPolicy)
				readsPlainly(t, s)
			}
		}
	}
}

func TestBehindOther(t *testing.T) {
	for n, ahead := range []string{"", app + "\n", app + "\n\n"} {
		for _, other := range []string{"other deny", "other allow"} {
			for _, empty := range emptyLines() {
				readsPlainly(t, ahead+other+"\n"+empty+"\n"+empty)
				for _, said := range append(rightLines(), "other deny", "other allow", "x", "\"") {
					refuses(t, ahead+other+"\n"+empty+"\n"+said+"\n", n+3, api.ErrPolicy)
				}
			}
		}
	}
}

// Without other it is the line behind the last one.
func TestNoOther(t *testing.T) {
	for _, c := range []struct {
		s    string
		line int
	}{
		{"", 1}, {"\n", 2}, {"\n\n", 3}, {" ", 2}, {"#", 2}, {"#\n", 2}, {app, 2}, {app + "\n", 2}, {app + "\n\n", 3}, {app + "\n ", 3}, {app + "\n" + app, 3}, {"# other deny", 2}, {strings.Repeat("\n", 65536), 65537}, {strings.Repeat("#", 65536), 2},
		{strings.Repeat(app+"\n", 256), 257},
	} {
		refuses(t, c.s, c.line, api.ErrPolicy)
		readsPlainly(t, c.s)
	}
}

func TestRulesBound(t *testing.T) {
	for _, n := range []int{0, 1, 255, 256} {
		want := attest.Policy{Other: true}
		for range n {
			want.Rules = append(want.Rules, appRule())
		}
		reads(t, strings.Repeat(app+"\n", n)+"other allow\n", want)
		reads(t, strings.Repeat(app+"\n\n", n)+"other allow\n", want)
	}
	refuses(t, strings.Repeat(app+"\n", 257)+"other allow\n", 257, api.ErrPolicy)
	refuses(t, strings.Repeat(app+"\n", 257), 257, api.ErrPolicy)
	refuses(t, strings.Repeat(app+"\n\n", 257)+"other allow\n", 513, api.ErrPolicy)
	refuses(t, strings.Repeat(app+"\n", 300)+"x\n", 257, api.ErrPolicy)
	refuses(t, strings.Repeat(app+"\n", 256)+"x\n"+app, 257, api.ErrPolicy)
	refuses(t, strings.Repeat(app+"\n", 256)+"other deny\n"+app, 258, api.ErrPolicy)
}

func TestTextBound(t *testing.T) {
	one := attest.Policy{Rules: []attest.Rule{appRule()}, Other: true}
	s := app + "\nother allow\n"
	reads(t, s+strings.Repeat("\n", 65536-len(s)), one)
	reads(t, s+strings.Repeat("#", 65536-len(s)), one)
	for _, long := range []string{
		s + strings.Repeat("\n", 65537-len(s)), s + strings.Repeat("#", 65537-len(s)), strings.Repeat("x\n", 40000), strings.Repeat("\"", 65537), strings.Repeat(app+"\n", 1000), strings.Repeat("\n", 1<<20),
	} {
		refuses(t, long, 0, api.ErrLong)
	}
	refuses(t, strings.Repeat("x", 65536), 1, api.ErrPolicy)
	refuses(t, strings.Repeat("x ", 32768), 1, api.ErrPolicy)
	refuses(t, "allow app "+strings.Repeat("0", 60000), 1, api.ErrPolicy)
}

// One byte beside a policy: changed, taken away, put in.
func TestPolicyOneByteBeside(t *testing.T) {
	s := "# x\n\n" + app + "\n deny b_2\t" + strings.Repeat("a9", 32) + " # y\nother allow\n# z"
	readsPlainly(t, s)
	for at := range len(s) {
		for c := range 256 {
			readsPlainly(t, s[:at]+string([]byte{byte(c)})+s[at+1:])
		}
		readsPlainly(t, s[:at]+s[at+1:])
		readsPlainly(t, s[:at])
		readsPlainly(t, s[at:])
		for _, c := range "\n\r\t #\"\\\x0009afgA_-" {
			readsPlainly(t, s[:at]+string(c)+s[at:])
		}
	}
}

// Texts of right, empty and wrong lines, as they come.
func TestPolicyWild(t *testing.T) {
	r := rand.New(rand.NewSource(166))
	words := []string{"allow", "deny", "other", "app", "App", zeros + "7", zeros, "\"app\"", "#", "\"", "x"}
	gaps := []string{" ", " ", "\t", "  ", ""}
	for range 30000 {
		var s strings.Builder
		for range r.Intn(8) {
			switch r.Intn(10) {
			case 0:
				s.WriteString(emptyLines()[r.Intn(len(emptyLines()))])
			case 1:
				for range r.Intn(5) {
					s.WriteString(words[r.Intn(len(words))] + gaps[r.Intn(len(gaps))])
				}
			case 2:
				s.WriteString("other allow")
			default:
				s.WriteString(rightLines()[r.Intn(len(rightLines()))])
			}
			s.WriteString("\n")
		}
		readsPlainly(t, s.String())
		readsPlainly(t, s.String()+"other deny")
	}
}
