package asm

import (
	"warden/api"
	"warden/isa"
	"warden/word"
)

// The names of the statements that are no instructions.
const (
	wordName = "word"
	liName   = "li"
	zeroName = "zero"
)

// The letters of a shape that are asked for by name: isa's distance, and the two that isa doesn't have.
const (
	distanceLetter = 'o'
	anyLetter      = 'x'
	countLetter    = 'n'
)

// kind: of a statement: a letter for each operand, and how many words it has at least, whatever its operands are.
type kind struct {
	name  string
	shape string
	least int
	op    isa.Op // of an instruction
}

// kindOf: the kind of the statements with that name, if there is one.
func kindOf(name string) (k kind, known bool) {
	switch name {
	case wordName:
		return kind{name: name, shape: "x", least: 1}, true
	case liName:
		return kind{name: name, shape: "ax", least: 2}, true
	case zeroName:
		return kind{name: name, shape: "n", least: 0}, true
	}
	op, e := isa.Named(name)
	return kind{name: name, shape: isa.Shape(op), least: 1, op: op}, e == api.OK
}

// words: of a statement of that kind. A label that isn't known yet counts as 0.
func (k kind) words(operands []operand) []uint32 {
	switch k.name {
	case wordName:
		return []uint32{operands[0].value}
	case liName:
		a, x := operands[0].value, operands[1].value
		return []uint32{half(isa.Movi, a, word.Field(x, 0, 16)), half(isa.Movt, a, word.Field(x, 16, 16))}
	case zeroName:
		return make([]uint32, operands[0].value)
	}
	return []uint32{k.instruction(operands)}
}

// half: the word of a movi or a movt.
func half(op isa.Op, register, number uint32) uint32 {
	w, _ := isa.Encode(isa.Instr{Op: op, A: int(register), Imm: int32(number)})
	return w
}

// instruction: the word of one; its operands have been read by their letters, so that it is one.
func (k kind) instruction(operands []operand) uint32 {
	i := isa.Instr{Op: k.op}
	for at, o := range operands {
		switch k.shape[at] {
		case 'a':
			i.A = int(o.value)
		case 'b':
			i.B = int(o.value)
		case 'c':
			i.C = int(o.value)
		case 'k':
			i.Cond = isa.Cond(o.value)
		default:
			i.Imm = int32(o.value)
		}
	}
	w, _ := isa.Encode(i)
	return w
}
