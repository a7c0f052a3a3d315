package cpu_test

import (
	"testing"

	"warden/api"
	"warden/cpu"
	"warden/isa"
	"warden/mem"
	"warden/regs"
)

// place: a word of the memory.
type place struct {
	f   api.Frame
	off int
}

// plain: the chapter's sentences in whole numbers, over words that are looked up by Peek. What is touched is written down; what is stored is kept aside.
type plain struct {
	m       *mem.Memory
	l1      int
	touched []place
	stored  map[place]uint32
}

func over(m *mem.Memory, l1 int) *plain { return &plain{m: m, l1: l1, stored: map[place]uint32{}} }

func (p *plain) look(at place) uint32 {
	p.touched = append(p.touched, at)
	return p.m.Peek(at.f, at.off)
}

func (p *plain) has(f api.Frame) bool {
	if f.Secure {
		return f.Page >= 0 && f.Page < p.m.Secure()
	}
	return f.Page >= 0 && f.Page < p.m.Insecure()
}

// reach: where an address leads, if what is wanted ('l', 's' or 'f') is allowed there.
func (p *plain) reach(va uint32, want byte) (place, bool) {
	if va >= 1<<30 || va%4 != 0 || !p.has(sec(p.l1)) {
		return place{}, false
	}
	w := p.look(place{sec(p.l1), int(va / 4194304)})
	l2 := int(w / 256)
	if w%256 != 1 || !p.has(sec(l2)) {
		return place{}, false
	}
	w = p.look(place{sec(l2), int(va / 4096 % 1024)})
	to := api.Frame{Page: int(w / 256)}
	rights := ""
	switch w % 256 {
	case 1:
		rights = "l"
	case 5:
		rights = "ls"
	case 3, 7, 11, 15:
		to.Secure = true
		rights = map[uint32]string{3: "l", 7: "ls", 11: "lf", 15: "lsf"}[w%256]
	}
	for _, r := range []byte(rights) {
		if r == want && p.has(to) {
			return place{to, int(va % 4096 / 4)}, true
		}
	}
	return place{}, false
}

// step: Step's answer.
func (p *plain) step(f regs.File) (regs.File, cpu.Event) {
	at, ok := p.reach(f.PC, 'f')
	if !ok {
		return f, cpu.Event{Kind: 3, Arg: f.PC}
	}
	w := p.look(at)
	i, e := isa.Decode(w)
	if e != api.OK {
		return f, cpu.Event{Kind: 2, Arg: w}
	}
	g := f
	g.PC = whole(int64(f.PC) + 4)
	switch i.Op {
	case isa.Ldr, isa.Ldx, isa.Str, isa.Stx:
		return p.data(f, g, i)
	case isa.Cmp:
		flags(&g, f.R[i.A], f.R[i.B])
	case isa.Cmpi:
		flags(&g, f.R[i.A], whole(int64(i.Imm)))
	case isa.B:
		if holds(f, i.Cond) {
			g.PC = whole(int64(f.PC) + 4 + 4*int64(i.Imm))
		}
	case isa.Bl:
		g.PC, g.R[14] = whole(int64(f.PC)+4+4*int64(i.Imm)), whole(int64(f.PC)+4)
	case isa.Br:
		g.PC = f.R[i.A]
	case isa.Svc:
		return g, cpu.Event{Kind: 1, Arg: uint32(i.Imm)}
	default:
		g.R[i.A] = reckon(i, f.R[i.A], f.R[i.B], f.R[i.C])
	}
	return g, cpu.Event{}
}

// data: of a load or store.
func (p *plain) data(f, g regs.File, i isa.Instr) (regs.File, cpu.Event) {
	va := whole(int64(f.R[i.B]) + int64(i.Imm))
	if i.Op == isa.Ldx || i.Op == isa.Stx {
		va = whole(int64(f.R[i.B]) + int64(f.R[i.C]))
	}
	want := byte('l')
	if i.Op == isa.Str || i.Op == isa.Stx {
		want = 's'
	}
	at, ok := p.reach(va, want)
	if !ok {
		return f, cpu.Event{Kind: 4, Arg: va}
	}
	w := p.look(at)
	if want == 'l' {
		g.R[i.A] = w
	} else {
		p.stored[at] = f.R[i.A]
	}
	return g, cpu.Event{}
}

// settle: what was stored comes into the memory.
func (p *plain) settle() {
	for at, w := range p.stored {
		p.m.Write(at.f, at.off, w)
	}
}

// whole: a number modulo 2^32.
func whole(n int64) uint32 { return uint32((n%4294967296 + 4294967296) % 4294967296) }

// signed: a word as a number with a sign.
func signed(w uint32) int64 {
	if w >= 2147483648 {
		return int64(w) - 4294967296
	}
	return int64(w)
}

func flags(f *regs.File, a, b uint32) { f.Z, f.N, f.L = a == b, signed(a) < signed(b), a < b }

func holds(f regs.File, c isa.Cond) bool {
	return []bool{true, f.Z, !f.Z, f.N, !f.N, f.L, !f.L}[c]
}

// halved: n divided by two so many times, rounded down each time; 64 times are as good as any more.
func halved(n int64, times uint32) int64 {
	for range min(times, 64) {
		n = (n - (n%2+2)%2) / 2
	}
	return n
}

// doubled: n times two so many times, modulo 2^32.
func doubled(n uint32, times uint32) uint32 {
	for range min(times, 64) {
		n = whole(2 * int64(n))
	}
	return n
}

// bitwise: the 32 bits of which each is what the two at its place give.
func bitwise(a, b uint32, give func(x, y uint32) bool) uint32 {
	sum, worth := int64(0), int64(1)
	for range 32 {
		if give(a%2, b%2) {
			sum += worth
		}
		a, b, worth = a/2, b/2, worth*2
	}
	return whole(sum)
}

// reckon: what A becomes.
func reckon(i isa.Instr, a, b, c uint32) uint32 {
	switch i.Op {
	case isa.Movi:
		return whole(int64(i.Imm))
	case isa.Movt:
		return whole(int64(i.Imm)*65536 + int64(a%65536))
	case isa.Mov:
		return b
	case isa.Add:
		return whole(int64(b) + int64(c))
	case isa.Sub:
		return whole(int64(b) - int64(c))
	case isa.Mul:
		return uint32(uint64(b) * uint64(c) % 4294967296)
	case isa.Div:
		if c == 0 {
			return 4294967295
		}
		return whole(int64(b) / int64(c))
	case isa.And:
		return bitwise(b, c, func(x, y uint32) bool { return x+y == 2 })
	case isa.Or:
		return bitwise(b, c, func(x, y uint32) bool { return x+y > 0 })
	case isa.Xor:
		return bitwise(b, c, func(x, y uint32) bool { return x+y == 1 })
	case isa.Shl:
		return doubled(b, c)
	case isa.Shr:
		return whole(halved(int64(b), c))
	case isa.Sar:
		return whole(halved(signed(b), c))
	case isa.Addi:
		return whole(int64(b) + int64(i.Imm))
	}
	panic("no Op that reckons")
}

// steps: Step against the plain one: file, event, every word, what is touched. It answers what Step answered.
func steps(t *testing.T, m *mem.Memory, l1 int, f regs.File) (regs.File, cpu.Event) {
	t.Helper()
	p := over(m.Clone(), l1)
	want, wantEv := p.step(f)
	was := m.Meter()
	got, ev := cpu.Step(m, l1, f)
	if got != want || ev != wantEv {
		t.Fatalf("P10.1 to P10.4: Step(%d, %+v) = %+v, %+v; want %+v, %+v", l1, f, got, ev, want, wantEv)
	}
	if n := m.Meter() - was; n != int64(len(p.touched)) || n > 6 {
		t.Fatalf("P10.5: Step(%d, %+v) touches %d words, want %d", l1, f, n, len(p.touched))
	}
	p.settle()
	if !m.Same(p.m) {
		t.Fatalf("P10.4: Step(%d, %+v) leaves other words than it should", l1, f)
	}
	return got, ev
}

func sec(page int) api.Frame { return api.Frame{Secure: true, Page: page} }

func ins(page int) api.Frame { return api.Frame{Page: page} }

func memory(t *testing.T, secure, insecure int) *mem.Memory {
	t.Helper()
	m, e := mem.New(secure, insecure)
	if e != api.OK {
		t.Fatalf("mem.New(%d, %d): %d", secure, insecure, e)
	}
	return m
}

// lay: words from an offset of a page on.
func lay(m *mem.Memory, f api.Frame, off int, words ...uint32) {
	for n, w := range words {
		m.Write(f, off+n, w)
	}
}

func encoded(t *testing.T, i isa.Instr) uint32 {
	t.Helper()
	w, e := isa.Encode(i)
	if e != api.OK {
		t.Fatalf("isa.Encode(%+v): %d", i, e)
	}
	return w
}

// machine: the memory of the chapter's examples, with a program at 0x1000.
func machine(t *testing.T, program ...isa.Instr) *mem.Memory {
	t.Helper()
	m := memory(t, 4, 2)
	lay(m, sec(0), 0, 0x101)
	lay(m, sec(1), 1, 0x20f, 0x005, 0x101)
	lay(m, ins(1), 0, 99)
	for n, i := range program {
		lay(m, sec(2), n, encoded(t, i))
	}
	return m
}

// start: the file of the chapter's examples.
func start() regs.File { return regs.Start(0x1000, 7, 0x2000, 3) }
