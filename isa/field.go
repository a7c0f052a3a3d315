package isa

import (
	"math"

	"warden/api"
	"warden/word"
)

// The bits of a word in which its Op's number stands.
const (
	opLow  = 26
	opBits = 6
)

// field: of a shape's letter: the bits of a word that it has, and the least and the greatest number that may stand there.
type field struct {
	low, bits   int
	least, most int
}

// fieldOf: of a letter of a shape; the zero field for every other one.
func fieldOf(letter byte) field {
	const lastRegister = api.Registers - 1
	switch letter {
	case 'a':
		return field{22, 4, 0, lastRegister}
	case 'b':
		return field{18, 4, 0, lastRegister}
	case 'c':
		return field{14, 4, 0, lastRegister}
	case 'k':
		return field{22, 3, 0, int(Conds) - 1}
	case 'u':
		return field{0, 16, 0, math.MaxUint16}
	case 's', 'o':
		return field{0, 16, math.MinInt16, math.MaxInt16}
	}
	return field{}
}

// read: the number that stands there in a word, with a sign where numbers below 0 may stand.
func (f field) read(w uint32) int {
	bits := word.Field(w, f.low, f.bits)
	if f.least < 0 {
		return int(word.Extend(bits, f.bits))
	}
	return int(bits)
}

// number: what an instruction has for a letter; 0 for one that no shape has.
func number(i Instr, letter byte) int {
	switch letter {
	case 'a':
		return i.A
	case 'b':
		return i.B
	case 'c':
		return i.C
	case 'k':
		return int(i.Cond)
	case 'u', 's', 'o':
		return int(i.Imm)
	}
	return 0
}

// with: the instruction with that number for a letter, which fits what the letter stands for.
func with(i Instr, letter byte, v int) Instr {
	switch letter {
	case 'a':
		i.A = v
	case 'b':
		i.B = v
	case 'c':
		i.C = v
	case 'k':
		i.Cond = Cond(v)
	case 'u', 's', 'o':
		i.Imm = int32(v)
	}
	return i
}
