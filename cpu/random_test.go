package cpu_test

import (
	"math/rand"
	"testing"

	"warden/cpu"
	"warden/isa"
	"warden/mem"
	"warden/regs"
)

// anyInstr: one that is one, whose numbers are near to 0 more often than not.
func anyInstr(t *testing.T, r *rand.Rand) uint32 {
	op := isa.Op(1 + r.Intn(24))
	i := isa.Instr{Op: op}
	for _, letter := range isa.Shape(op) {
		switch letter {
		case 'a':
			i.A = r.Intn(15)
		case 'b':
			i.B = r.Intn(15)
		case 'c':
			i.C = r.Intn(15)
		case 'k':
			i.Cond = isa.Cond(r.Intn(7))
		case 'u':
			i.Imm = int32(r.Intn(65536) >> r.Intn(16))
		case 's', 'o':
			i.Imm = int32(r.Intn(65536)-32768) >> r.Intn(16)
		}
	}
	if (op == isa.Ldr || op == isa.Str) && r.Intn(4) > 0 {
		i.Imm &^= 3
	}
	return encoded(t, i)
}

// anyWord: one that may be an address there, an edge, or anything.
func anyWord(r *rand.Rand) uint32 {
	switch r.Intn(4) {
	case 0:
		return edges[r.Intn(len(edges))]
	case 1:
		return r.Uint32()
	}
	return uint32(r.Intn(2))<<22 | uint32(r.Intn(8))<<12 | uint32(r.Intn(1024))<<2
}

func anyFile(r *rand.Rand) regs.File {
	f := regs.File{PC: uint32(r.Intn(2))<<22 | uint32(r.Intn(4))<<12 | uint32(r.Intn(1024))<<2}
	if r.Intn(20) == 0 {
		f.PC = r.Uint32()
	}
	for n := range f.R {
		f.R[n] = anyWord(r)
	}
	f.Z, f.N, f.L = r.Intn(2) == 0, r.Intn(2) == 0, r.Intn(2) == 0
	return f
}

// anyMachine: the table in page 0 with two second-level tables, behind them pages of instructions and other words, of which some are mapped, some of the tables too.
func anyMachine(t *testing.T, r *rand.Rand) *mem.Memory {
	m := memory(t, 4+r.Intn(5), 1+r.Intn(3))
	for page := 3; page < m.Secure(); page++ {
		for off := range 1024 {
			w := anyInstr(t, r)
			if r.Intn(20) == 0 {
				w = anyWord(r)
			}
			m.Write(sec(page), off, w)
		}
	}
	for page := range m.Insecure() {
		for off := range 1024 {
			m.Write(ins(page), off, anyWord(r))
		}
	}
	lay(m, sec(0), 0, 0x101, 0x201)
	for _, page := range []int{1, 2} {
		for off := range 8 {
			w := uint32(r.Intn(9))<<8 | uint32(r.Intn(8))<<1 | 1
			if off < 4 && r.Intn(4) > 0 {
				w = uint32(3+r.Intn(m.Secure()-3))<<8 | 0xb | uint32(r.Intn(2))<<2
			}
			m.Write(sec(page), off, w)
		}
	}
	return m
}

func TestRandomSteps(t *testing.T) {
	r := rand.New(rand.NewSource(101))
	seen := map[cpu.Kind]int{}
	for range 40 {
		m := anyMachine(t, r)
		for range 400 {
			f := anyFile(r)
			l1 := 0
			if r.Intn(50) == 0 {
				l1 = r.Intn(12) - 2
			}
			_, ev := steps(t, m, l1, f)
			seen[ev.Kind]++
		}
	}
	for kind := cpu.Next; kind < cpu.Spent; kind++ {
		if seen[kind] < 100 {
			t.Errorf("only %d steps of the kind %d", seen[kind], kind)
		}
	}
}

func TestRandomRuns(t *testing.T) {
	r := rand.New(rand.NewSource(106))
	for range 20 {
		m := anyMachine(t, r)
		for range 40 {
			runs(t, m, 0, anyFile(r), r.Intn(200))
		}
	}
}

// A memory of as many pages that is like another in the words that a step touches there, and in no other: the step is the same, and so is the word that it lays.
func TestStepHangsOnWhatItTouches(t *testing.T) {
	r := rand.New(rand.NewSource(107))
	stores := 0
	for range 40 {
		m := anyMachine(t, r)
		other := memory(t, m.Secure(), m.Insecure())
		for range 150 {
			f := anyFile(r)
			p := over(m.Clone(), 0)
			p.step(f)
			scramble(r, other)
			for _, at := range p.touched {
				lay(other, at.f, at.off, m.Peek(at.f, at.off))
			}
			kept, was := other.Clone(), m.Meter()
			g, ev := cpu.Step(m, 0, f)
			touched := m.Meter() - was
			was = other.Meter()
			if h, ev2 := cpu.Step(other, 0, f); h != g || ev2 != ev || other.Meter()-was != touched {
				t.Fatalf("P10.7: Step(%+v): %+v, %+v there, %+v, %+v here", f, g, ev, h, ev2)
			}
			for at := range p.stored {
				stores++
				lay(kept, at.f, at.off, m.Peek(at.f, at.off))
			}
			if !other.Same(kept) {
				t.Fatalf("P10.7: Step(%+v) lays other words here than there", f)
			}
		}
	}
	if stores < 20 {
		t.Errorf("only %d stores", stores)
	}
}

// scramble: every word another one.
func scramble(r *rand.Rand, m *mem.Memory) {
	words := make([]uint32, 1024)
	for n := range m.Secure() + m.Insecure() {
		for off := range words {
			words[off] = r.Uint32()
		}
		f := sec(n)
		if n >= m.Secure() {
			f = ins(n - m.Secure())
		}
		m.Lay(f, words)
	}
}
