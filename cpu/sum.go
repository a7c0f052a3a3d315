package cpu

import (
	"warden/isa"
	"warden/regs"
	"warden/word"
)

// The two halves of a word.
const (
	halfBits = 16
	lowHalf  = 1<<halfBits - 1
)

// imm: the instruction's number as a word: one below 0 has 2^32 more.
func imm(i isa.Instr) uint32 { return uint32(i.Imm) }

// sum: what the register A becomes.
func sum(f regs.File, i isa.Instr) uint32 {
	ra, rb, rc := f.R[i.A], f.R[i.B], f.R[i.C]
	switch i.Op {
	case isa.Movi:
		return imm(i)
	case isa.Movt:
		return imm(i)<<halfBits | ra&lowHalf
	case isa.Mov:
		return rb
	case isa.Add:
		return rb + rc
	case isa.Sub:
		return rb - rc
	case isa.Mul:
		return rb * rc
	case isa.Div:
		return word.Div(rb, rc)
	case isa.And:
		return rb & rc
	case isa.Or:
		return rb | rc
	case isa.Xor:
		return rb ^ rc
	case isa.Shl:
		return word.Left(rb, rc)
	case isa.Shr:
		return word.Right(rb, rc)
	case isa.Sar:
		return word.Arith(rb, rc)
	case isa.Addi:
		return rb + imm(i)
	}
	return ra
}

// address: where a load or store goes.
func address(f regs.File, i isa.Instr) uint32 {
	switch i.Op {
	case isa.Ldx, isa.Stx:
		return f.R[i.B] + f.R[i.C]
	}
	return f.R[i.B] + imm(i)
}

// against: what a comparison holds the register A against.
func against(f regs.File, i isa.Instr) uint32 {
	if i.Op == isa.Cmpi {
		return imm(i)
	}
	return f.R[i.B]
}
