package asm

import (
	"errors"
	"strconv"

	"warden/api"
)

// broken: a fault as an error value, on its way from where it is found to the face.
type broken struct {
	fault Fault
}

func (b broken) Error() string {
	f := b.fault
	return "error " + strconv.Itoa(int(f.Err)) + " at line " + strconv.Itoa(f.Line) + ", column " + strconv.Itoa(f.Col)
}

// faultAt: the error value of a fault.
func faultAt(e api.Errno, line, col int) error {
	return broken{Fault{Err: e, Line: line, Col: col}}
}

// faultIn: the fault that an error value stands for.
func faultIn(err error) Fault {
	var b broken
	if !errors.As(err, &b) {
		return Fault{}
	}
	return b.fault
}
