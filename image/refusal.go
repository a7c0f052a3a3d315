package image

import (
	"errors"
	"strconv"

	"warden/api"
)

// refusal: an error's number as an error value: with it a call gives up, by panic, from where a fault is found up to the face.
type refusal api.Errno

func (r refusal) Error() string { return "error " + strconv.Itoa(int(r)) }

// atLine: a refusal that came at another line of the text than the one that is being read.
type atLine struct {
	line int
	why  error
}

func (a atLine) Error() string { return "line " + strconv.Itoa(a.line) + ": " + a.why.Error() }
func (a atLine) Unwrap() error { return a.why }

// insist: gives up with the error, unless it is so.
func insist(so bool, e api.Errno) {
	if !so {
		panic(refusal(e))
	}
}

// tried: what the work answers; or the zero value, and why it gave up.
func tried[T any](work func() T) (done T, err error) {
	defer func() {
		if why := recover(); why != nil {
			err = refusalIn(why)
		}
	}()
	return work(), nil
}

// refusalIn: the error with which a call gave up. What is no refusal is a mistake of the program's own, which nobody shall take for a fault of what was handed in.
func refusalIn(why any) error {
	if err, ok := why.(error); ok && numberOf(err) != api.OK {
		return err
	}
	panic(why)
}

// numberOf: what the face answers for an error; OK for none.
func numberOf(err error) api.Errno {
	var r refusal
	if !errors.As(err, &r) {
		return api.OK
	}
	return api.Errno(r)
}
