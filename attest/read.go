package attest

import (
	"warden/api"
	"warden/text"
)

// ParsePolicy: lines allow NAME HEX, deny NAME HEX, and last one other allow or other deny. ErrLong, ErrPolicy and the line's number (0 for ErrLong).
func ParsePolicy(s string) (p Policy, line int, e api.Errno) {
	p, err := policyOf(s)
	return p, lineOf(err), numberOf(err)
}

// policyOf: the policy of a text; or none, and the first refusal, with its line.
func policyOf(s string) (Policy, error) {
	lines, e := text.Lines(s)
	if e != api.OK {
		return Policy{}, errLong
	}
	var r reader
	for i, line := range lines {
		if err := r.readLine(line); err != nil {
			return Policy{}, atLine{i + 1, err}
		}
	}
	if !r.ended {
		return Policy{}, atLine{len(lines) + 1, errPolicy}
	}
	return r.policy, nil
}

// reader: what has been read of a policy's lines.
type reader struct {
	policy Policy
	ended  bool // other has been said
}

// readLine: what the line says, if it says something.
func (r *reader) readLine(line string) error {
	words, _, e := text.Words(line)
	if e != api.OK {
		return errPolicy
	}
	if len(words) == 0 {
		return nil
	}
	if r.ended || anyQuoted(words) {
		return errPolicy
	}
	switch len(words) {
	case 2:
		return r.readOther(words[0].Text, words[1].Text)
	case 3:
		return r.readRule(words[0].Text, words[1].Text, words[2].Text)
	}
	return errPolicy
}

func anyQuoted(words []text.Word) bool {
	for _, w := range words {
		if w.Quoted {
			return true
		}
	}
	return false
}

func (r *reader) readOther(other, said string) error {
	allow, ok := allows(said)
	if other != otherWord || !ok {
		return errPolicy
	}
	r.policy.Other = allow
	r.ended = true
	return nil
}

func (r *reader) readRule(said, name, digits string) error {
	allow, ok := allows(said)
	measurement, eight := eightOf(digits)
	if !ok || text.Name(name) != api.OK || !eight || len(r.policy.Rules) == mostRules {
		return errPolicy
	}
	r.policy.Rules = append(r.policy.Rules, Rule{Allow: allow, Name: name, Measurement: measurement})
	return nil
}

// allows: what the word allow or deny says; false for every other word.
func allows(said string) (allow, ok bool) {
	switch said {
	case allowWord:
		return true, true
	case denyWord:
		return false, true
	}
	return false, false
}
