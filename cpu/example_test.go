package cpu_test

import (
	"testing"

	"warden/api"
	"warden/cpu"
	"warden/isa"
	"warden/regs"
)

// tells: one step from a file: the event, what it touches, and the file, which is f changed as told.
func tells(t *testing.T, f regs.File, i isa.Instr, ev cpu.Event, touched int64, change func(*regs.File)) {
	t.Helper()
	m := machine(t, i)
	was := m.Meter()
	got, gotEv := cpu.Step(m, 0, f)
	change(&f)
	if got != f || gotEv != ev || m.Meter()-was != touched {
		t.Errorf("P10.2: %+v: %+v, %+v, %d touched; want %+v, %+v, %d", i, got, gotEv, m.Meter()-was, f, ev, touched)
	}
}

func same(*regs.File) {}

// becomes: PC is the next one, and a register has that word.
func becomes(r int, w uint32) func(*regs.File) {
	return func(f *regs.File) { f.R[r], f.PC = w, f.PC+4 }
}

func goes(pc uint32) func(*regs.File) { return func(f *regs.File) { f.PC = pc } }

func TestExample1(t *testing.T) {
	tells(t, start(), isa.Instr{Op: isa.Add, A: 3, B: 0, C: 2}, cpu.Event{}, 3, becomes(3, 10))
	tells(t, start(), isa.Instr{Op: isa.Svc, Imm: 9}, cpu.Event{Kind: cpu.Call, Arg: 9}, 3, goes(0x1004))
	m := machine(t)
	if g, ev := cpu.Step(m, 0, start()); g != start() || ev != (cpu.Event{Kind: cpu.Code, Arg: 0}) {
		t.Errorf("P10.1: the word 0: %+v, %+v", g, ev)
	}
}

func TestExample2(t *testing.T) {
	m := machine(t, isa.Instr{Op: isa.Str, A: 0, B: 1, Imm: 4})
	kept, was := m.Clone(), m.Meter()
	g, ev := cpu.Step(m, 0, start())
	if g != regs.Start(0x1004, 7, 0x2000, 3) || ev != (cpu.Event{}) || m.Meter()-was != 6 {
		t.Errorf("P10.3: a store: %+v, %+v, %d touched", g, ev, m.Meter()-was)
	}
	kept.Write(ins(0), 1, 7)
	if m.Peek(ins(0), 1) != 7 || !m.Same(kept) {
		t.Error("P10.3: a store lays its word, and no other")
	}
	tells(t, start(), isa.Instr{Op: isa.Str, A: 0, B: 1, Imm: 2}, cpu.Event{Kind: cpu.Data, Arg: 0x2002}, 3, same)
	tells(t, start(), isa.Instr{Op: isa.Ldr, A: 0, B: 1, Imm: 0x1000}, cpu.Event{}, 6, becomes(0, 99))
	tells(t, start(), isa.Instr{Op: isa.Str, A: 0, B: 1, Imm: 0x1000}, cpu.Event{Kind: cpu.Data, Arg: 0x3000}, 5, same)
	tells(t, start(), isa.Instr{Op: isa.Ldx, A: 0, B: 1, C: 1}, cpu.Event{Kind: cpu.Data, Arg: 0x4000}, 5, same)
}

func TestExample3(t *testing.T) {
	tells(t, start(), isa.Instr{Op: isa.Div, A: 0, B: 0, C: 9}, cpu.Event{}, 3, becomes(0, 0xffffffff))
	tells(t, start(), isa.Instr{Op: isa.Shl, A: 0, B: 0, C: 1}, cpu.Event{}, 3, becomes(0, 0))
	tells(t, start(), isa.Instr{Op: isa.Movt, A: 0, Imm: 0x1234}, cpu.Event{}, 3, becomes(0, 0x12340007))
	tells(t, start(), isa.Instr{Op: isa.Addi, A: 0, B: 0, Imm: -8}, cpu.Event{}, 3, becomes(0, 0xffffffff))
}

func TestExample4(t *testing.T) {
	below := func(f *regs.File) { f.PC, f.L = 0x1004, true }
	tells(t, start(), isa.Instr{Op: isa.Cmpi, A: 0, Imm: -1}, cpu.Event{}, 3, below)
	f := start()
	f.L = true
	tells(t, f, isa.Instr{Op: isa.B, Cond: isa.Lt, Imm: 5}, cpu.Event{}, 3, goes(0x1004))
	tells(t, f, isa.Instr{Op: isa.B, Cond: isa.Lo, Imm: -2}, cpu.Event{}, 3, goes(0x0ffc))
	tells(t, start(), isa.Instr{Op: isa.Bl, Imm: 0}, cpu.Event{}, 3, becomes(14, 0x1004))
	m := machine(t, isa.Instr{Op: isa.Br, A: 2})
	g, ev := cpu.Step(m, 0, start())
	if g != regs.Start(3, 7, 0x2000, 3) || ev != (cpu.Event{}) {
		t.Errorf("P10.4: Br to 3: %+v, %+v", g, ev)
	}
	if h, ev := cpu.Step(m, 0, g); h != g || ev != (cpu.Event{Kind: cpu.Fetch, Arg: 3}) {
		t.Errorf("P10.4: the fetch at 3: %+v, %+v", h, ev)
	}
}

func TestExample5(t *testing.T) {
	for _, x := range []struct {
		l1      int
		pc      uint32
		touched int64
	}{{0, 0x2000, 2}, {9, 0x1000, 0}} {
		m := machine(t)
		f := start()
		f.PC = x.pc
		was := m.Meter()
		if g, ev := cpu.Step(m, x.l1, f); g != f || ev != (cpu.Event{Kind: cpu.Fetch, Arg: x.pc}) || m.Meter()-was != x.touched {
			t.Errorf("P10.1: the fetch at %#x by the table %d: %+v, %+v, %d touched", x.pc, x.l1, g, ev, m.Meter()-was)
		}
	}
}

func TestExample6(t *testing.T) {
	loop := []isa.Instr{{Op: isa.B, Imm: -1}}
	two := []isa.Instr{{Op: isa.Add, A: 3, B: 0, C: 2}, {Op: isa.Svc, Imm: 9}}
	behind := start()
	behind.R[3] = 10
	for _, x := range []struct {
		program []isa.Instr
		fuel    int
		g       regs.File
		pc      uint32
		ev      cpu.Event
		used    int
		e       api.Errno
	}{
		{loop, 5, start(), 0x1000, cpu.Event{Kind: cpu.Spent}, 5, api.OK},
		{two, 1, behind, 0x1004, cpu.Event{Kind: cpu.Spent}, 1, api.OK},
		{two, 2, behind, 0x1008, cpu.Event{Kind: cpu.Call, Arg: 9}, 2, api.OK},
		{two, 0, start(), 0x1000, cpu.Event{Kind: cpu.Spent}, 0, api.OK},
		{two, -1, regs.File{}, 0, cpu.Event{}, 0, api.ErrFuel},
		{two, 100001, regs.File{}, 0, cpu.Event{}, 0, api.ErrFuel},
	} {
		x.g.PC = x.pc
		g, ev, used, e := cpu.Run(machine(t, x.program...), 0, start(), x.fuel)
		if g != x.g || ev != x.ev || used != x.used || e != x.e {
			t.Errorf("P10.6: Run with %d: %+v, %+v, %d, %d; want %+v, %+v, %d, %d", x.fuel, g, ev, used, e, x.g, x.ev, x.used, x.e)
		}
	}
}

func TestExample7(t *testing.T) {
	f := start()
	f.R[1] = 0x1004
	m := machine(t, isa.Instr{Op: isa.Str, A: 0, B: 1, Imm: 0})
	g, ev, used, e := cpu.Run(m, 0, f, 9)
	f.PC = 0x1004
	if g != f || ev != (cpu.Event{Kind: cpu.Code, Arg: 7}) || used != 2 || e != api.OK {
		t.Errorf("P10.6: a program that lays its next word: %+v, %+v, %d, %d", g, ev, used, e)
	}
}
