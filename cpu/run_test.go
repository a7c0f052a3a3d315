package cpu_test

import (
	"math"
	"testing"

	"warden/api"
	"warden/cpu"
	"warden/isa"
	"warden/mem"
	"warden/regs"
)

// runs: Run against steps done one by one on a clone: file, event, used, words, meter.
func runs(t *testing.T, m *mem.Memory, l1 int, f regs.File, fuel int) {
	t.Helper()
	c := m.Clone()
	want, wantEv, wantUsed := f, cpu.Event{Kind: 5}, 0
	for wantUsed < fuel {
		var ev cpu.Event
		want, ev = cpu.Step(c, l1, want)
		wantUsed++
		if ev.Kind != 0 {
			wantEv = ev
			break
		}
	}
	g, ev, used, e := cpu.Run(m, l1, f, fuel)
	if g != want || ev != wantEv || used != wantUsed || e != api.OK {
		t.Fatalf("P10.6: Run with %d: %+v, %+v, %d, %d; want %+v, %+v, %d", fuel, g, ev, used, e, want, wantEv, wantUsed)
	}
	if !m.Same(c) || m.Meter() != c.Meter() {
		t.Fatalf("P10.6: Run with %d does other than its steps: the meter is %d, want %d", fuel, m.Meter(), c.Meter())
	}
}

// programs: each ends in another way, or not at all.
func programs() [][]isa.Instr {
	return [][]isa.Instr{
		{{Op: isa.B, Imm: -1}},
		{{Op: isa.Addi, A: 0, B: 0, Imm: -1}, {Op: isa.Cmpi, A: 0}, {Op: isa.B, Cond: isa.Ne, Imm: -3}, {Op: isa.Svc, Imm: 65535}},
		{{Op: isa.Svc}, {Op: isa.Svc, Imm: 1}},
		{{Op: isa.Str, A: 0, B: 1}, {Op: isa.Addi, A: 1, B: 1, Imm: 4}, {Op: isa.B, Imm: -3}},
		{{Op: isa.Mov, A: 4, B: 0}},
		{{Op: isa.Br, A: 1}},
		{{Op: isa.Br, A: 2}},
		{},
	}
}

func TestRunIsItsSteps(t *testing.T) {
	for _, program := range programs() {
		for _, fuel := range []int{0, 1, 2, 3, 4, 21, 22, 23, 3072, 3073, 3074, 5000} {
			runs(t, machine(t, program...), 0, start(), fuel)
		}
		for _, l1 := range []int{-1, 1, 9} {
			runs(t, machine(t, program...), l1, start(), 3)
		}
	}
}

// With the whole fuel a loop goes as often as it may, and not once more.
func TestRunWithTheGreatestFuel(t *testing.T) {
	m := machine(t, isa.Instr{Op: isa.Addi, A: 3, B: 3, Imm: 1}, isa.Instr{Op: isa.B, Imm: -2})
	was := m.Meter()
	g, ev, used, e := cpu.Run(m, 0, start(), 100000)
	if g.R[3] != 50000 || g.PC != 0x1000 || ev != (cpu.Event{Kind: cpu.Spent}) || used != 100000 || e != api.OK {
		t.Errorf("P10.6: Run with 100000: %+v, %+v, %d, %d", g, ev, used, e)
	}
	if m.Meter()-was != 300000 {
		t.Errorf("P10.5: 100000 steps of three words touch %d", m.Meter()-was)
	}
}

// A store into the program's own words, or into its tables, counts from the next step on.
func TestRunSeesWhatItLaid(t *testing.T) {
	svc := encoded(t, isa.Instr{Op: isa.Svc, Imm: 77})
	m := machine(t, isa.Instr{Op: isa.Str, A: 0, B: 1}, isa.Instr{Op: isa.Mov, A: 5, B: 5})
	if _, ev, used, _ := cpu.Run(m, 0, regs.Start(0x1000, svc, 0x1004, 0), 9); ev != (cpu.Event{Kind: cpu.Call, Arg: 77}) || used != 2 {
		t.Errorf("P10.6: an instruction that was laid: %+v, %d", ev, used)
	}
	m = machine(t, isa.Instr{Op: isa.Str, A: 0, B: 1}, isa.Instr{Op: isa.Mov, A: 5, B: 5})
	lay(m, sec(1), 4, 0x107)
	if _, ev, used, _ := cpu.Run(m, 0, regs.Start(0x1000, 0, 0x4004, 0), 9); ev != (cpu.Event{Kind: cpu.Fetch, Arg: 0x1004}) || used != 2 {
		t.Errorf("P10.6: a table's word that was laid: %+v, %d", ev, used)
	}
}

// The event of a step that has used up the fuel is told, if it is another one than Next.
func TestRunThatEndsWithItsLastFuel(t *testing.T) {
	for _, x := range []struct {
		last isa.Instr
		ev   cpu.Event
	}{
		{isa.Instr{Op: isa.Svc, Imm: 3}, cpu.Event{Kind: cpu.Call, Arg: 3}},
		{isa.Instr{Op: isa.Ldr, A: 1, B: 1, Imm: -1}, cpu.Event{Kind: cpu.Data, Arg: 0x1fff}},
		{isa.Instr{Op: isa.Mov}, cpu.Event{Kind: cpu.Spent}},
	} {
		_, ev, used, e := cpu.Run(machine(t, isa.Instr{Op: isa.Mov}, x.last), 0, start(), 2)
		if ev != x.ev || used != 2 || e != api.OK {
			t.Errorf("P10.6: %+v with the last fuel: %+v, %d, %d", x.last, ev, used, e)
		}
	}
}

func TestFuelThatMayNotBe(t *testing.T) {
	m := machine(t, isa.Instr{Op: isa.Str, A: 0, B: 1})
	kept := m.Clone()
	for _, fuel := range []int{math.MinInt, -1 << 32, -100000, -1, 100001, 1 << 20, 1 << 32, 1<<32 + 1, math.MaxInt} {
		for _, l1 := range []int{0, -1, 9} {
			g, ev, used, e := cpu.Run(m, l1, start(), fuel)
			if g != (regs.File{}) || ev != (cpu.Event{}) || used != 0 || e != api.ErrFuel {
				t.Errorf("P10.6: Run with %d: %+v, %+v, %d, %d", fuel, g, ev, used, e)
			}
		}
	}
	if !m.Same(kept) || m.Meter() != kept.Meter() {
		t.Error("P10.6: with a fuel that may not be something was done")
	}
}
