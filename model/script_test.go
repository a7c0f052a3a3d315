package model_test

import (
	"math/rand"
	"strconv"
	"strings"
	"testing"

	"warden/api"
	"warden/asm"
	"warden/entry"
	"warden/monitor"
)

// chance: scripts and programs by chance.
type chance struct{ *rand.Rand }

func seeded(n int64) chance { return chance{rand.New(rand.NewSource(n))} }

func (c chance) of(words ...string) string { return words[c.Intn(len(words))] }

func (c chance) word(words ...uint32) uint32 { return words[c.Intn(len(words))] }

// page: mostly one that there is, of n.
func (c chance) page(n int) uint32 {
	if c.Intn(15) == 0 {
		return c.word(uint32(n), uint32(n)+1, 64, 0x10000, 0x80000000, 0xffffffff, c.Uint32())
	}
	return uint32(c.Intn(n))
}

// mapping: mostly one that can be.
func (c chance) mapping() uint32 {
	return c.word(0, 0x1000, 0x1000, 0x1000, 0x2000, 0x2000, 0x400000, 0x3ff000, 0x40000000) | c.word(1, 1, 3, 3, 5, 7, 0, 2, 9)
}

func (c chance) fuel() int {
	return []int{-c.Intn(3), c.Intn(3), c.Intn(70), 63 + c.Intn(3), c.Intn(300), c.Intn(2000), c.Intn(120000)}[c.Intn(7)]
}

// kind: mostly a page of that type, if there is one.
func (c chance) kind(w world, t entry.Type) uint32 {
	pages := w.m.DB().Pages()
	if c.Intn(4) > 0 {
		for _, page := range c.Perm(pages) {
			if e, _ := w.m.DB().Entry(page); e.Type == t {
				return uint32(page)
			}
		}
	}
	return c.page(pages)
}

// call: a number and four arguments, mostly such as the number asks for.
func (c chance) call(w world, shared int) []uint32 {
	space, free, thread := c.kind(w, entry.Space), c.kind(w, entry.Free), c.kind(w, entry.Thread)
	other := c.page(w.m.DB().Pages())
	switch n := c.word(0, 10, 11, 12, 12, 13, 13, 13, 14, 14, 14, 15, 16, 17, 17, 17, 18, 18, 18, 19, 20, 20, 20, 20); n {
	case 10:
		return []uint32{n, free, c.kind(w, entry.Free), c.Uint32(), c.Uint32()}
	case 11:
		return []uint32{n, space, free, c.word(0x1000, 0x1000, 0x1004, c.Uint32()), c.Uint32()}
	case 12:
		return []uint32{n, space, free, c.word(0, 0, 1, 255, 256, c.Uint32()), c.Uint32()}
	case 13:
		return []uint32{n, space, free, c.mapping(), c.page(shared) + c.word(0, 0, 0, 0, 1)}
	case 14:
		return []uint32{n, space, c.mapping(), c.page(shared) + c.word(0, 0, 0, 0, 1), c.Uint32()}
	case 15:
		return []uint32{n, space, free, c.Uint32(), c.Uint32()}
	case 16, 19:
		return []uint32{n, space, c.Uint32(), c.Uint32(), c.Uint32()}
	case 17, 18:
		return []uint32{n, thread, c.Uint32(), c.word(0x1000, 0x2000, 0x3000), other}
	case 20:
		return []uint32{n, other, c.Uint32(), c.Uint32(), c.Uint32()}
	}
	return []uint32{c.word(0, 0, 1, 2, 3, 4, 9, 21, c.Uint32()), other, other, other, other}
}

// line: of a program that works on its own pages, by svc and by loads and stores.
func (c chance) line(pages int) string {
	page, va := strconv.Itoa(c.Intn(pages)), c.of("0x1003", "0x2003", "0x3003", "0x5003", "0x5001", "0x7007")
	switch c.Intn(8) {
	case 0:
		return c.of("str r0 r1 0\n", "br r2\n", "word 0xfffffff0\n", "svc 0\n", "svc 0\n", "mov r0 r1\n", "mov r0 r2\n")
	case 1:
		return "movi r3 " + c.of("0x1000", "0x2000", "0x3000") + "\n" + c.of("str r1 r3 ", "ldr r1 r3 ") + strconv.Itoa(4*c.Intn(1024)) + "\n"
	case 2, 3:
		return "movi r1 " + page + "\nmovi r2 " + va + "\nsvc " + c.of("3", "3", "4") + "\n"
	case 4:
		return "movi r1 " + page + "\nmovi r2 " + c.of("0", "1", "255", "256") + "\nsvc 5\n"
	case 5:
		return "svc " + c.of("1", "2", "6", "6", "7", "8", "0") + "\n"
	case 6:
		return "cmpi r1 " + page + "\nb " + c.of("eq", "ne", "lt", "hs", "al") + " " + strconv.Itoa(c.Intn(6)-2) + "\n"
	}
	return c.of("add r0 r0 r1\n", "addi r1 r1 3\n", "mov r1 r2\n", "mov r1 r14\n")
}

func (c chance) program(pages int) []uint32 {
	b := &strings.Builder{}
	for range 2 + c.Intn(20) {
		b.WriteString(c.line(pages))
	}
	b.WriteString("svc 0\n")
	words, _ := asm.Assemble(b.String(), 0x1000)
	return words
}

// draws: streams of all lengths.
func (c chance) draws() (all [][]uint32) {
	for range c.Intn(4) {
		var stream []uint32
		for range c.Intn(5) {
			stream = append(stream, c.Uint32())
		}
		all = append(all, stream)
	}
	return all
}

// raiseSome: mostly an enclave that can be run, so that not every script has to come upon one by chance.
func (c chance) raiseSome(w world, s uint32, shared uint32) {
	for _, words := range [][]uint32{
		{10, s, s + 1}, {12, s, s + 2, 0}, {13, s, s + 3, 0x1000 | c.word(5, 7), 0}, {14, s, 0x2000 | c.word(1, 3), shared - 1}, {11, s, s + 4, 0x1000}, {15, s, s + 5}, {16, s},
	} {
		if c.Intn(12) > 0 {
			w.do(c.fuel(), words...)
		}
	}
}

// step: a write, registers, or a call; the two first also of what there isn't.
func (c chance) step(w world, pages, shared int) {
	switch c.Intn(8) {
	case 0:
		w.write(c.Intn(shared+1), c.Intn(1030)-3, c.Uint32())
	case 1:
		w.write(0, 0, c.program(pages)...)
	case 2:
		for range c.Intn(18) {
			r, v := c.Intn(18)-1, c.Uint32()
			if e := w.n.SetRegister(r, v); e != w.m.SetRegister(r, v) {
				w.Fatalf("P22.2: SetRegister(%d): %d", r, e)
			}
		}
		w.same("SetRegister")
	default:
		w.do(c.fuel(), c.call(w, shared)...)
	}
}

// Scripts over machines of few pages, so that the calls meet: the model is that of the machine behind each step.
func TestScripts(t *testing.T) {
	seen := map[called]int{}
	for seed := range int64(300) {
		c := seeded(2200 + seed)
		pages, shared := 7+c.Intn(10), 1+c.Intn(3)
		w := booted(t, monitor.Config{Secure: pages, Insecure: shared, Seed: [8]uint32{c.Uint32()}, Streams: c.draws()})
		w.seen = seen
		w.write(0, 0, c.program(pages)...)
		c.raiseSome(w, 0, uint32(shared))
		if pages > 12 {
			w.write(0, 0, c.program(pages)...)
			c.raiseSome(w, 6, uint32(shared))
		}
		for range 80 {
			c.step(w, pages, shared)
		}
	}
	allSeen(t, seen)
}

// allSeen: each call answered each of its codes, but for the births that are used up.
func allSeen(t *testing.T, seen map[called]int) {
	t.Helper()
	for number, codes := range map[uint32][]api.Code{
		0: {api.CodeCall}, 1: {api.CodeOK}, 2: {api.CodeOK}, 3: {api.CodeOK},
		10: {api.CodeOK, api.CodePage, api.CodeArg, api.CodeUsed},
		11: {api.CodeOK, api.CodePage, api.CodeSpace, api.CodeFinal, api.CodeUsed},
		12: {api.CodeOK, api.CodePage, api.CodeSpace, api.CodeFinal, api.CodeArg, api.CodeUsed, api.CodeAddress},
		13: {api.CodeOK, api.CodePage, api.CodeSpace, api.CodeFinal, api.CodeMapping, api.CodeInsecure, api.CodeUsed, api.CodeTable, api.CodeAddress},
		14: {api.CodeOK, api.CodePage, api.CodeSpace, api.CodeFinal, api.CodeMapping, api.CodeInsecure, api.CodeTable, api.CodeAddress},
		15: {api.CodeOK, api.CodePage, api.CodeSpace, api.CodeStopped, api.CodeUsed},
		16: {api.CodeOK, api.CodePage, api.CodeSpace, api.CodeFinal},
		17: {api.CodeOK, api.CodePage, api.CodeThread, api.CodeNotFinal, api.CodeEntered, api.CodeInterrupted, api.CodeFault},
		18: {api.CodeOK, api.CodePage, api.CodeThread, api.CodeNotFinal, api.CodeNotEntered, api.CodeInterrupted, api.CodeFault},
		19: {api.CodeOK, api.CodePage, api.CodeSpace},
		20: {api.CodeOK, api.CodePage, api.CodeFree, api.CodeNotStopped, api.CodeHeld},
	} {
		for _, code := range codes {
			if n := seen[called{number, code}]; n < 5 {
				t.Errorf("the call %d answers %d only %d times", number, code, n)
			}
		}
	}
}

// There are as many births as there may be streams; then no space is made any more, though pages are free.
func TestBirths(t *testing.T) {
	w := booted(t, monitor.Config{Secure: 3, Insecure: 1, Streams: streams(64, 4096)})
	for range 64 {
		w.takes([]uint32{10, 1, 2}, []uint32{19, 1}, []uint32{20, 2}, []uint32{20, 1})
	}
	w.wants(api.CodeStreams, 0, 0, 10, 1, 2)
	if p, _ := w.n.Page(1); w.m.DB().Births() != 64 || p.Type != entry.Free {
		t.Errorf("P22.2: %d births; page 1 is a %s", w.m.DB().Births(), entry.TypeName(p.Type))
	}
}

// Calls of any words at all.
func TestAnyWords(t *testing.T) {
	c := seeded(22)
	w := settled(t)
	for range 300 {
		w.do(c.Int(), c.word(c.Uint32()%24, c.Uint32()), c.Uint32()%20, c.Uint32()%20, c.Uint32(), c.Uint32())
	}
}
