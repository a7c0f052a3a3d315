package model_test

import (
	"testing"

	"warden/api"
	"warden/entry"
	"warden/isa"
	"warden/monitor"
	"warden/pagedb"
	"warden/regs"
	"warden/valid"
)

// odd: a word of a page by chance, at a place where something is kept.
func (c chance) odd(d *pagedb.DB) {
	page := c.Intn(d.Pages())
	off := []int{0, 1, 2, 3 + c.Intn(34), c.Intn(64), c.Intn(1024)}[c.Intn(6)]
	v := c.word(0, 1, c.Uint32()%5, c.Uint32()%4100, c.Uint32(), uint32(c.Intn(d.Memory().Insecure()))<<8|c.word(1, 5, 9, 13), 0x800000)
	if e, _ := d.Entry(page); e.Type == entry.Free && c.Intn(10) > 0 {
		return
	}
	d.Memory().Write(secure(page), off, v)
}

// oddState: the state with words that no calls leave, but a valid one; and how many there are of these.
func (c chance) oddState(d *pagedb.DB) (*pagedb.DB, int) {
	kept := 0
	for range 60 {
		other := d.Clone()
		if c.Intn(20) == 0 {
			words := d.Words()
			words[0] = uint32(c.Intn(65))
			other, _ = pagedb.Load(other.Memory(), words)
		}
		c.odd(other)
		if clause, _ := valid.Broken(other); clause == 0 && (!other.Memory().Same(d.Memory()) || other.Births() != d.Births()) {
			d = other
			kept++
		}
	}
	return d, kept
}

// Of each valid state, whether or not calls could have led there, there is a model, and it goes on as the machine does.
func TestScriptsOverOddStates(t *testing.T) {
	seen, kept := map[called]int{}, 0
	for seed := range int64(200) {
		c := seeded(2250 + seed)
		pages, shared := 8+c.Intn(9), 1+c.Intn(3)
		w := booted(t, monitor.Config{Secure: pages, Insecure: shared, Streams: c.draws()})
		w.seen = seen
		w.write(0, 0, c.program(pages)...)
		c.raiseSome(w, 0, uint32(shared))
		for range 30 {
			c.step(w, pages, shared)
		}
		d, n := c.oddState(w.m.DB())
		kept += n
		w = w.over(d)
		for range 40 {
			c.step(w, pages, shared)
		}
	}
	if kept < 1000 || seen[called{17, api.CodeOK}] < 5 || seen[called{18, api.CodeFault}] < 10 {
		t.Errorf("%d odd words in all; %v", kept, seen)
	}
}

// instruction: any that there is, of that Op.
func (c chance) instruction(op isa.Op) isa.Instr {
	for {
		i := isa.Instr{Op: op, Cond: isa.Cond(c.Intn(7)), A: c.Intn(15), B: c.Intn(15), C: c.Intn(15), Imm: int32(c.Intn(1<<17) - 1<<16)}
		if c.Intn(3) > 0 {
			i.Imm = int32(4 * (c.Intn(20) - 10))
		}
		shape := isa.Shape(op)
		for letter, field := range map[byte]*int{'a': &i.A, 'b': &i.B, 'c': &i.C} {
			if !contains(shape, letter) {
				*field = 0
			}
		}
		if !contains(shape, 'k') {
			i.Cond = 0
		}
		if !contains(shape, 'u') && !contains(shape, 's') && !contains(shape, 'o') {
			i.Imm = 0
		}
		if isa.Check(i) == api.OK {
			return i
		}
	}
}

func contains(shape string, letter byte) bool {
	for i := range len(shape) {
		if shape[i] == letter {
			return true
		}
	}
	return false
}

// stand: the thread in page 5 is interrupted with that file, as if it had come there by itself.
func (w world) stand(f regs.File) world {
	w.Helper()
	d := w.m.DB().Clone()
	for i, v := range regs.Pack(f) {
		d.Memory().Write(secure(5), 1+i, v)
	}
	d.SetEntered(5, true)
	return w.over(d)
}

// One instruction of every Op, with any registers: the machine's file behind it, or its fault, is the model's.
func TestEveryOpAtAnyFile(t *testing.T) {
	w := booted(t, config(9, 2))
	w.raise(0, "svc 0")
	ended := map[isa.Op]map[api.Code]int{}
	for op := isa.Movi; op < isa.Ops; op++ {
		c := seeded(int64(op))
		ended[op] = map[api.Code]int{}
		for range 100 {
			i := c.instruction(op)
			word, _ := isa.Encode(i)
			off := c.Intn(1024)
			w.m.DB().Memory().Write(secure(3), off, word)
			f := c.file()
			f.PC = 0x1000 + uint32(4*off)
			w = w.stand(f)
			code, _ := w.do(1, 18, 5)
			ended[op][code]++
		}
	}
	for op, codes := range ended {
		faults := isa.Ldr <= op && op <= isa.Stx
		if codes[api.CodeInterrupted] < 5 || faults != (codes[api.CodeFault] > 0) {
			t.Errorf("%s: %v", isa.Name(op), codes)
		}
	}
}

// Words by chance as instructions, and addresses at which nothing can be fetched.
func TestAnyWordAtAnyAddress(t *testing.T) {
	w := booted(t, config(9, 2))
	w.raise(0, "svc 0")
	seen := map[uint32]int{}
	c := seeded(2201)
	for range 400 {
		off := c.Intn(1024)
		w.m.DB().Memory().Write(secure(3), off, c.word(c.Uint32(), c.Uint32()%0x68000000, 0, 0xffffffff))
		f := c.file()
		f.PC = c.word(0x1000+uint32(4*off), 0x1000+uint32(4*off), 0x1001+uint32(4*off), 0x2000, 0x3000, 0x5000, 0x401000, 0x40001000, 0xfffffffc, 0x80001000, 0x1002)
		w = w.stand(f)
		if code, value := w.do(1+c.Intn(3), 18, 5); code == api.CodeFault {
			seen[value]++
		}
	}
	if seen[api.FaultCode] < 10 || seen[api.FaultFetch] < 10 {
		t.Errorf("faults: %v", seen)
	}
}
