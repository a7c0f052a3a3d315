package cpu

import (
	"warden/api"
	"warden/isa"
	"warden/mem"
	"warden/regs"
	"warden/walk"
)

const (
	wordBytes = 4  // the addresses of two words that follow one another are so far apart
	link      = 14 // the register in which Bl leaves the way back
)

// group: which part of the machine an Op keeps busy.
type group int

const (
	sums     group = 1 + iota // a register becomes what comes out of others and the number
	loads                     // a register becomes a word of the memory
	stores                    // a word of the memory becomes a register
	compares                  // the flags
	jumps                     // the address
	calls                     // nothing but the event
)

var groups = [isa.Ops]group{
	isa.Movi: sums,
	isa.Movt: sums,
	isa.Mov:  sums,
	isa.Add:  sums,
	isa.Sub:  sums,
	isa.Mul:  sums,
	isa.Div:  sums,
	isa.And:  sums,
	isa.Or:   sums,
	isa.Xor:  sums,
	isa.Shl:  sums,
	isa.Shr:  sums,
	isa.Sar:  sums,
	isa.Addi: sums,
	isa.Ldr:  loads,
	isa.Str:  stores,
	isa.Ldx:  loads,
	isa.Stx:  stores,
	isa.Cmp:  compares,
	isa.Cmpi: compares,
	isa.B:    jumps,
	isa.Bl:   jumps,
	isa.Br:   jumps,
	isa.Svc:  calls,
}

// do: an instruction that was fetched and is one.
func do(m *mem.Memory, l1 int, f regs.File, i isa.Instr) (regs.File, Event) {
	g := f
	g.PC += wordBytes
	access := walk.Load
	switch groups[i.Op] {
	case sums:
		g.R[i.A] = sum(f, i)
	case compares:
		g = regs.Compare(g, f.R[i.A], against(f, i))
	case jumps:
		g = jump(g, i)
	case calls:
		return g, Event{Kind: Call, Arg: imm(i)}
	case stores:
		access = walk.Store
		fallthrough
	case loads:
		va := address(f, i)
		w, e := reach(m, l1, va, access, f.R[i.A])
		if e != api.OK {
			return f, Event{Kind: Data, Arg: va}
		}
		// A store gives back the register's own word, so that the register stays.
		g.R[i.A] = w
	}
	return g, Event{}
}

// reach: loads the word at an address, or stores w there; either way it gives the word that then stands there. An error, and nothing changed, if it may not be done.
func reach(m *mem.Memory, l1 int, va uint32, access walk.Access, w uint32) (uint32, api.Errno) {
	frame, off, e := walk.Translate(m, l1, va, access)
	if e != api.OK {
		return 0, e
	}
	if access == walk.Store {
		return w, m.Write(frame, off, w)
	}
	return m.Read(frame, off)
}

// jump: g, whose address is the next one already, with the address that the instruction leads to.
func jump(g regs.File, i isa.Instr) regs.File {
	next := g.PC
	switch i.Op {
	case isa.B:
		if regs.Holds(g, i.Cond) {
			g.PC = next + wordBytes*imm(i)
		}
	case isa.Bl:
		g.R[link] = next
		g.PC = next + wordBytes*imm(i)
	case isa.Br:
		g.PC = g.R[i.A]
	}
	return g
}
