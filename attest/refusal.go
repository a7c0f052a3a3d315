package attest

import (
	"errors"
	"strconv"

	"warden/api"
)

// Why something is refused.
var (
	errLong   = errors.New("a text of too many bytes")
	errQuoted = errors.New("no quote")
	errPolicy = errors.New("no policy")
	errTag    = errors.New("the tag is another one")
	errNonce  = errors.New("the data are no answer to the nonce")
	errDenied = errors.New("the policy denies the measurement")
)

// atLine: a refusal, and the line of the text at which it came, from 1 on.
type atLine struct {
	line int
	why  error
}

func (a atLine) Error() string { return "line " + strconv.Itoa(a.line) + ": " + a.why.Error() }
func (a atLine) Unwrap() error { return a.why }

// numberOf: what the face answers for a refusal; OK for none.
func numberOf(err error) api.Errno {
	switch {
	case errors.Is(err, errLong):
		return api.ErrLong
	case errors.Is(err, errQuoted):
		return api.ErrQuoted
	case errors.Is(err, errPolicy):
		return api.ErrPolicy
	case errors.Is(err, errTag):
		return api.ErrTag
	case errors.Is(err, errNonce):
		return api.ErrNonce
	case errors.Is(err, errDenied):
		return api.ErrDenied
	}
	return api.OK
}

// lineOf: the line that a refusal knows of; 0, if it knows none.
func lineOf(err error) int {
	var a atLine
	if !errors.As(err, &a) {
		return 0
	}
	return a.line
}
