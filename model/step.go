package model

import (
	"warden/api"
	"warden/isa"
	"warden/regs"
)

// link: the register in which Bl leaves the way back.
const link = 14

// event: how a step ended: by a call of a number, by a fault (one of api's, which are not 0), or by nothing that were to be told.
type event struct {
	calls  bool
	number uint32
	fault  uint32
}

// step: one instruction of a thread. With a fault the file is as it was, and so is the memory.
func step(s sight, f regs.File) (regs.File, event) {
	w, may := s.fetch(f.PC)
	if !may {
		return f, event{fault: api.FaultFetch}
	}
	i, e := isa.Decode(w)
	if e != api.OK {
		return f, event{fault: api.FaultCode}
	}
	g := f
	g.PC += wordBytes
	switch i.Op {
	case isa.Ldr, isa.Ldx:
		g.R[i.A], may = s.load(address(f, i))
	case isa.Str, isa.Stx:
		may = s.store(address(f, i), f.R[i.A])
	case isa.Cmp:
		g = regs.Compare(g, f.R[i.A], f.R[i.B])
	case isa.Cmpi:
		g = regs.Compare(g, f.R[i.A], number(i))
	case isa.B, isa.Bl, isa.Br:
		g = jump(g, i)
	case isa.Svc:
		return g, event{calls: true, number: number(i)}
	default:
		g.R[i.A] = result(f, i)
	}
	if !may {
		return f, event{fault: api.FaultData}
	}
	return g, event{}
}

// number: an instruction's, as a word.
func number(i isa.Instr) uint32 { return uint32(i.Imm) }

// address: that of a load or a store.
func address(f regs.File, i isa.Instr) uint32 {
	if i.Op == isa.Ldx || i.Op == isa.Stx {
		return f.R[i.B] + f.R[i.C]
	}
	return f.R[i.B] + number(i)
}

// jump: g, whose address is the next one already, with the address that the instruction leads to.
func jump(g regs.File, i isa.Instr) regs.File {
	next, far := g.PC, g.PC+wordBytes*number(i)
	switch {
	case i.Op == isa.Br:
		g.PC = g.R[i.A]
	case i.Op == isa.Bl:
		g.R[link], g.PC = next, far
	case regs.Holds(g, i.Cond):
		g.PC = far
	}
	return g
}

// result: what comes out of the registers and the number.
func result(f regs.File, i isa.Instr) uint32 {
	b, c := f.R[i.B], f.R[i.C]
	switch i.Op {
	case isa.Movi:
		return number(i)
	case isa.Movt:
		return number(i)<<16 | f.R[i.A]&0xffff
	case isa.Mov:
		return b
	case isa.Add:
		return b + c
	case isa.Sub:
		return b - c
	case isa.Mul:
		return b * c
	case isa.Div:
		return quotient(b, c)
	case isa.And:
		return b & c
	case isa.Or:
		return b | c
	case isa.Xor:
		return b ^ c
	case isa.Shl:
		return b << c
	case isa.Shr:
		return b >> c
	case isa.Sar:
		return uint32(int32(b) >> c)
	}
	return b + number(i) // Addi
}

// quotient: by 0 too.
func quotient(b, c uint32) uint32 {
	if c == 0 {
		return 0xffffffff
	}
	return b / c
}
