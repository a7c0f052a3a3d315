package attest

import (
	"errors"
	"testing"

	"warden/api"
)

// Each refusal has its number, as it is and with its line, however often it is wrapped.
func TestRefusals(t *testing.T) {
	for _, c := range []struct {
		why  error
		want api.Errno
	}{
		{errLong, api.ErrLong}, {errQuoted, api.ErrQuoted}, {errPolicy, api.ErrPolicy}, {errTag, api.ErrTag}, {errNonce, api.ErrNonce}, {errDenied, api.ErrDenied}, {nil, api.OK},
	} {
		if e := numberOf(c.why); e != c.want || lineOf(c.why) != 0 {
			t.Errorf("%v: %d, line %d; want %d, no line", c.why, e, lineOf(c.why), c.want)
		}
		if c.why == nil {
			continue
		}
		wrapped := atLine{7, c.why}
		for _, err := range []error{wrapped, errors.Join(wrapped), atLine{7, wrapped}} {
			if e := numberOf(err); e != c.want || lineOf(err) != 7 {
				t.Errorf("%v: %d, line %d; want %d, line 7", err, e, lineOf(err), c.want)
			}
		}
		if got, want := wrapped.Error(), "line 7: "+c.why.Error(); got != want {
			t.Errorf("the refusal says %q, want %q", got, want)
		}
	}
}

// Every refusal of a policy's text knows its line.
func TestPolicyRefusalsAreWrapped(t *testing.T) {
	for s, line := range map[string]int{"": 1, "x": 1, "\n\"": 2, "other deny\nother deny": 2} {
		if _, err := policyOf(s); !errors.Is(err, errPolicy) || err == errPolicy || lineOf(err) != line {
			t.Errorf("P16.4: policyOf(%q): %v, line %d", s, err, lineOf(err))
		}
	}
}
