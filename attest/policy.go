package attest

import (
	"strings"

	"warden/api"
	"warden/text"
	"warden/word"
)

const (
	mostRules = 256

	allowWord = "allow"
	denyWord  = "deny"
	otherWord = "other"
)

// Rule: of a policy: a measurement that is taken or not, under a name.
type Rule struct {
	Allow       bool
	Name        string
	Measurement [8]uint32
}

// Policy: rules; the first that has the measurement decides; if none has, Other does.
type Policy struct {
	Rules []Rule
	Other bool
}

// FormatPolicy: the one form; ErrPolicy (a rule's name is none, more than 256 rules).
func FormatPolicy(p Policy) (string, api.Errno) {
	if err := checked(p); err != nil {
		return "", numberOf(err)
	}
	var form strings.Builder
	for _, r := range p.Rules {
		form.WriteString(layLine(verdict(r.Allow), r.Name, word.HexAll(r.Measurement[:])))
	}
	form.WriteString(layLine(otherWord, verdict(p.Other)))
	return form.String(), api.OK
}

// Decide: whether the policy takes a measurement, and by which rule's name ("" for Other).
func Decide(p Policy, measurement [8]uint32) (bool, string) {
	for _, r := range p.Rules {
		if r.Measurement == measurement {
			return r.Allow, strings.Clone(r.Name) // an answer shares no memory with what was handed in
		}
	}
	return p.Other, ""
}

// checked: why a policy has no form; nil, if it has one.
func checked(p Policy) error {
	if len(p.Rules) > mostRules {
		return errPolicy
	}
	for i, r := range p.Rules {
		if text.Name(r.Name) != api.OK {
			return atLine{i + 1, errPolicy}
		}
	}
	return nil
}

func verdict(allow bool) string {
	if allow {
		return allowWord
	}
	return denyWord
}
