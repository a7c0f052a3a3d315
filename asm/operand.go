package asm

import (
	"math"
	"strings"

	"warden/api"
	"warden/isa"
	"warden/text"
)

// operand: the number, modulo 2^32, that a word tells; or the label that is to become one, and its column.
type operand struct {
	value uint32
	label string
	col   int
}

// readOperand: what a word tells in the place of that letter; ok is false, if it is none of that kind.
func readOperand(letter byte, w text.Word) (o operand, ok bool) {
	if w.Quoted {
		return operand{}, false
	}
	if mayBeLabel(letter) && text.Name(w.Text) == api.OK {
		return operand{label: w.Text, col: w.Col}, true
	}
	value, ok := readNumber(letter, w.Text)
	return operand{value: value}, ok
}

func mayBeLabel(letter byte) bool { return letter == distanceLetter || letter == anyLetter }

// readNumber: of a word in the place of that letter.
func readNumber(letter byte, s string) (n uint32, ok bool) {
	switch letter {
	case 'a', 'b', 'c':
		return register(s)
	case 'k':
		c, e := isa.CondNamed(s)
		return uint32(c), e == api.OK
	case 'u':
		return upTo(s, math.MaxUint16)
	case 's', distanceLetter:
		return between(s, math.MinInt16, math.MaxInt16)
	case countLetter:
		return upTo(s, MaxCode)
	}
	if n, ok = upTo(s, math.MaxUint32); ok {
		return n, true
	}
	return between(s, math.MinInt32, math.MaxInt32)
}

// register: its number, which is read as one with a sign: these have no form in hex.
func register(s string) (n uint32, ok bool) {
	number, found := strings.CutPrefix(s, "r")
	n, ok = between(number, 0, api.Registers-1)
	return n, found && ok
}

// upTo: a number, if it isn't above most.
func upTo(s string, most uint32) (n uint32, ok bool) {
	n, e := text.Number(s)
	return n, e == api.OK && n <= most
}

// between: a number with a sign, modulo 2^32, if it is neither below least nor above most.
func between(s string, least, most int32) (n uint32, ok bool) {
	v, e := text.Signed(s)
	return uint32(v), e == api.OK && v >= least && v <= most
}
