package cpu_test

import (
	"math"
	"testing"

	"warden/cpu"
	"warden/isa"
	"warden/mem"
	"warden/regs"
)

// edges: words at which sums, shifts, signs and comparisons turn.
var edges = []uint32{0, 1, 2, 3, 15, 16, 30, 31, 32, 33, 63, 64, 0xffff, 0x10000, 0x12345678, 0x55555555, 0x7ffffffe, 0x7fffffff, 0x80000000, 0x80000001, 0xaaaaaaaa, 0xffff0000, 0xfffffffe, 0xffffffff}

// numbers: what may stand in an instruction of that shape.
func numbers(op isa.Op) []int32 {
	for _, letter := range isa.Shape(op) {
		switch letter {
		case 'u':
			return []int32{0, 1, 9, 0x7fff, 0x8000, 0x1234, 0xfffe, 0xffff}
		case 's', 'o':
			return []int32{0, 1, -1, 2, -2, 4, -4, 5, 0x1000, -0x1000, 32764, 32767, -32768}
		}
	}
	return []int32{0}
}

// conds: what a B may ask; of every other Op the one that it must have.
func conds(op isa.Op) []isa.Cond {
	if op == isa.B {
		return []isa.Cond{isa.Always, isa.Eq, isa.Ne, isa.Lt, isa.Ge, isa.Lo, isa.Hs}
	}
	return []isa.Cond{isa.Always}
}

// registers: which registers an Op names, alike and unlike ones, the first and the last among them; 0 for one that it doesn't name.
func registers(op isa.Op) [][3]int {
	switch isa.Shape(op) {
	case "abc":
		return [][3]int{{1, 2, 3}, {1, 1, 3}, {1, 2, 1}, {1, 2, 2}, {0, 14, 7}, {14, 0, 14}, {4, 4, 4}}
	case "ab", "abs":
		return [][3]int{{1, 2, 0}, {2, 1, 0}, {3, 3, 0}, {0, 14, 0}, {14, 0, 0}}
	case "a", "au", "as":
		return [][3]int{{0, 0, 0}, {1, 0, 0}, {7, 0, 0}, {14, 0, 0}}
	}
	return [][3]int{{0, 0, 0}}
}

// everyFlag: all eight, those that can't be too.
func everyFlag(f regs.File) []regs.File {
	var all []regs.File
	for n := range 8 {
		f.Z, f.N, f.L = n&1 != 0, n&2 != 0, n&4 != 0
		all = append(all, f)
	}
	return all
}

// Every Op with the edges of its numbers, its registers and what they hold, by all flags.
func TestEveryOpAtItsEdges(t *testing.T) {
	m := machine(t)
	for op := isa.Movi; op < isa.Ops; op++ {
		for _, n := range numbers(op) {
			for _, c := range conds(op) {
				for _, r := range registers(op) {
					overEdges(t, m, isa.Instr{Op: op, Cond: c, A: r[0], B: r[1], C: r[2], Imm: n})
				}
			}
		}
	}
}

// overEdges: an instruction with the edges in the registers that it names, on a memory and on a clone of it that the plain one goes through.
func overEdges(t *testing.T, m *mem.Memory, i isa.Instr) {
	t.Helper()
	code := encoded(t, i)
	c := m.Clone()
	for _, x := range edges {
		for _, y := range edges {
			f := regs.Start(0x1000, 11, 22, 33)
			f.R[14] = 0xdeadbeef
			f.R[i.A], f.R[i.B], f.R[i.C] = x^y, x, y
			// A store may have been laid where the instruction stands.
			lay(m, sec(2), 0, code)
			lay(c, sec(2), 0, code)
			p := over(c, 0)
			want, wantEv := p.step(f)
			p.settle()
			was := m.Meter()
			got, ev := cpu.Step(m, 0, f)
			if got != want || ev != wantEv || m.Meter()-was != int64(len(p.touched)) {
				t.Fatalf("P10.2: %+v of %+v: %+v, %+v, %d touched; want %+v, %+v, %d", i, f, got, ev, m.Meter()-was, want, wantEv, len(p.touched))
			}
		}
	}
	if !m.Same(c) {
		t.Fatalf("P10.4: %+v leaves other words than it should", i)
	}
}

// Conditions are held against the flags as they stand; nothing but a comparison sets them.
func TestFlagsThatCantBe(t *testing.T) {
	for op := isa.Movi; op < isa.Ops; op++ {
		for _, c := range conds(op) {
			m := machine(t, isa.Instr{Op: op, Cond: c})
			for _, f := range everyFlag(start()) {
				g, _ := steps(t, m.Clone(), 0, f)
				if op != isa.Cmp && op != isa.Cmpi && (g.Z != f.Z || g.N != f.N || g.L != f.L) {
					t.Errorf("P10.2: %s changes flags: %+v", isa.Name(op), g)
				}
			}
		}
	}
}

// Loads and stores at each kind of address, with the address reached by the number and by a register.
func TestEveryKindOfAddress(t *testing.T) {
	for _, va := range []uint32{0, 4, 0xffc, 0x1000, 0x1001, 0x1ffc, 0x2000, 0x2002, 0x2ffc, 0x2ffd, 0x3000, 0x3003, 0x3ffc, 0x4000, 0x400000, 0x3ffffffc, 0x3fffffff, 0x40000000, 0x40002000, 0x80002000, 0xfffffffc, 0xffffffff} {
		for _, n := range numbers(isa.Ldr) {
			for _, op := range []isa.Op{isa.Ldr, isa.Str, isa.Ldx, isa.Stx} {
				i := isa.Instr{Op: op, A: 5, B: 6, Imm: n}
				f := start()
				f.R[5], f.R[6], f.R[7] = 0xabcdef01, va-uint32(n), uint32(n)
				if op == isa.Ldx || op == isa.Stx {
					i.C, i.Imm = 7, 0
				}
				g, ev := steps(t, machine(t, i), 0, f)
				if ev.Kind == cpu.Data && (ev.Arg != va || g != f) {
					t.Errorf("P10.3: %+v at %#x: %+v", i, va, ev)
				}
			}
		}
	}
}

// Where it may be loaded, stored and fetched, by every word that a table may hold there.
func TestEveryRight(t *testing.T) {
	m := machine(t, isa.Instr{Op: isa.Ldr, A: 5, B: 1}, isa.Instr{Op: isa.Str, A: 0, B: 1})
	for w := range uint32(0x600) {
		lay(m, sec(1), 2, w)
		for _, pc := range []uint32{0x1000, 0x1004, 0x2000} {
			f := start()
			f.PC = pc
			steps(t, m.Clone(), 0, f)
		}
	}
}

func TestTablesThatAreNone(t *testing.T) {
	m := machine(t, isa.Instr{Op: isa.Add, A: 3, B: 0, C: 2})
	for _, l1 := range []int{math.MinInt, -1 << 32, -1, 1, 2, 3, 4, 9, 63, 64, 1 << 32, math.MaxInt} {
		if _, ev := steps(t, m, l1, start()); ev != (cpu.Event{Kind: cpu.Fetch, Arg: 0x1000}) {
			t.Errorf("P10.1: the table %d: %+v", l1, ev)
		}
	}
	for _, pc := range []uint32{0, 4, 0xffc, 0x1001, 0x1002, 0x1003, 0x2000, 0x3000, 0x4000, 0x3ffffffc, 0x40000000, 0x40001000, 0x80001000, 0xfffffffc, 0xffffffff} {
		f := start()
		f.PC = pc
		if _, ev := steps(t, m, 0, f); ev != (cpu.Event{Kind: cpu.Fetch, Arg: pc}) {
			t.Errorf("P10.1: PC %#x: %+v", pc, ev)
		}
	}
}

func TestWordsThatAreNone(t *testing.T) {
	m := machine(t)
	for _, w := range []uint32{0, 7, 0x03ffffff, 0x04c10005, 0x07c00005, 0x55c00000, 0x5600fffe, 0x64000000, 0x80000000, 0xffffffff} {
		lay(m, sec(2), 0, w)
		if _, ev := steps(t, m, 0, start()); ev != (cpu.Event{Kind: cpu.Code, Arg: w}) {
			t.Errorf("P10.1: the word %#x: %+v", w, ev)
		}
	}
}

// The last word below TopVA may be fetched; the address behind it is no fault until the next fetch.
func TestBehindTheLastAddress(t *testing.T) {
	m := memory(t, 3, 1)
	lay(m, sec(0), 255, 0x101)
	lay(m, sec(1), 1023, 0x20b)
	for _, i := range []isa.Instr{{Op: isa.Movi, A: 1, Imm: 5}, {Op: isa.Svc, Imm: 65535}, {Op: isa.Bl, Imm: 32767}, {Op: isa.B, Imm: 0}} {
		lay(m, sec(2), 1023, encoded(t, i))
		f := regs.Start(0x3ffffffc, 1, 2, 3)
		g, _ := steps(t, m, 0, f)
		if want := 0x40000000 + 4*uint32(i.Imm); i.Op == isa.Bl && (g.PC != want || g.R[14] != 0x40000000) {
			t.Errorf("P10.2: Bl at the last address: %+v", g)
		}
		if _, ev := steps(t, m, 0, g); ev != (cpu.Event{Kind: cpu.Fetch, Arg: g.PC}) {
			t.Errorf("P10.4: behind the last address: %+v", ev)
		}
	}
}

// A store may lie in the instruction's own word, or in the tables that it was found by: it is found ahead of that.
func TestStoresIntoWhatIsBeingUsed(t *testing.T) {
	for _, page := range []uint32{0, 1, 2} {
		for _, off := range []uint32{0, 1, 2, 5} {
			m := machine(t, isa.Instr{Op: isa.Str, A: 0, B: 1}, isa.Instr{Op: isa.Str, A: 0, B: 1})
			lay(m, sec(1), 5, page<<8|7)
			f := start()
			f.R[1] = 0x5000 + 4*off
			g, ev := steps(t, m, 0, f)
			if ev != (cpu.Event{}) || m.Peek(sec(int(page)), int(off)) != 7 {
				t.Errorf("P10.3: a store into word %d of page %d: %+v", off, page, ev)
			}
			steps(t, m, 0, g)
		}
	}
}
