package enter_test

import (
	"math/rand"
	"strconv"
	"strings"
	"testing"

	"warden/api"
	"warden/build"
	"warden/life"
)

// chance: programs and fuels by chance.
type chance struct{ *rand.Rand }

func seeded(seed int64) chance { return chance{rand.New(rand.NewSource(seed))} }

func (c chance) register() string { return " r" + strconv.Itoa(c.Intn(4)) }

func (c chance) of(words ...string) string { return words[c.Intn(len(words))] }

// number: of 0 to n - 1.
func (c chance) number(n int) string { return " " + strconv.Itoa(c.Intn(n)) }

// call: a svc, mostly with what it may be handed: the spare pages are s + 7 and s + 8, the data pages s + 3 and s + 4.
func (c chance) call(s int) string {
	page := " " + strconv.Itoa(s+3+c.Intn(6))
	mapping := " 0x" + c.of("1", "2", "3", "5", "6", "400", "3ff") + "00" + c.of("0", "1", "3", "3", "3", "5", "7")
	switch n := c.Intn(10); n {
	case 2:
		return "movi r1" + c.of(" 0x2000", " 0x2fa0", " 0x2fa4", " 0x3000", " 0x1ff0", " 0x9000", " 2") + "\nsvc 2\n"
	case 3, 4:
		there := "movi r1" + page + "\nli r2" + mapping + "\n"
		return there + c.of("svc 3\n", "svc 4\n", "svc 3\nstr r0 r2 -3\nsvc 4\n", "movi r1 "+strconv.Itoa(s+4)+"\nmovi r2 0x2003\nsvc 4\n")
	case 5:
		return "movi r1" + page + "\nmovi r2" + c.of(" 0", " 1", " 2", " 255", " 256") + "\nsvc 5\n"
	case 8:
		return "svc" + c.number(65536) + "\n"
	case 9:
		return c.of("svc 0\n", "", "", "")
	default:
		return "svc " + strconv.Itoa(max(n, 1)) + "\n"
	}
}

// line: an instruction, or a few. r4 to r7 are the addresses of the enclave's pages, so that most loads and stores can be.
func (c chance) line(s int) string {
	switch c.Intn(16) {
	case 0, 1, 2:
		return c.of("add", "sub", "mul", "div", "and", "or", "xor", "shl", "shr", "sar") + c.register() + c.register() + c.register() + "\n"
	case 3:
		return c.of("movi", "movt") + c.register() + c.number(65536) + "\n"
	case 4, 5, 6:
		return c.of("ldr", "str") + c.register() + c.of(" r4", " r4", " r4", " r5", " r5", " r5", " r6") + " " + strconv.Itoa(c.Intn(1024)*4) + "\n"
	case 7:
		return c.of("cmp"+c.register()+c.register(), "cmpi"+c.register()+c.number(100)) + "\nb " + c.of("al", "eq", "ne", "lt", "ge", "lo", "hs") + " " + strconv.Itoa(c.Intn(12)-4) + "\n"
	case 8:
		return "bl" + c.number(3) + "\n"
	case 9:
		return c.of("", "", "br r14\n", "str"+c.register()+" r7"+c.number(64)+"\n", "ldr r0 r1 0\n", "b al 900\n", "br r3\n", "word 0xffffffff\n", "svc 0\n")
	default:
		return c.call(s)
	}
}

func (c chance) program(s int) string {
	b := &strings.Builder{}
	b.WriteString("movi r4 0x2000\nmovi r5 0x3000\nmovi r6 0x4000\nmovi r7 0x1000\n")
	for range 5 + c.Intn(60) {
		b.WriteString(c.line(s))
	}
	b.WriteString("svc 0\n")
	return b.String()
}

// fuel: of all sizes.
func (c chance) fuel() int {
	return []int{-c.Intn(3), c.Intn(3), c.Intn(70), 63 + c.Intn(3), c.Intn(200), c.Intn(1000), c.Intn(5000), c.Intn(120000)}[c.Intn(8)]
}

// raise: an enclave in the nine pages from s on: the space, its table, a second-level table for the addresses from 0 on, the program (0x1000, to be written and executed too), a data page (0x2000, to be written), two threads that begin at 0x1000 and at 0x1008, two spare pages. It shares the insecure pages 1 (0x3000, to be written) and 2 (0x4000).
func (w world) raise(s uint32, program string) {
	w.Helper()
	contents := make([]uint32, 1024)
	copy(contents, w.assemble(program, 0x1000))
	w.write(0, 0, contents...)
	w.ok("building", build.Space(w.d, s, s+1), build.Table(w.d, s, s+2, 0), build.Data(w.d, s, s+3, 0x1007, 0), build.Data(w.d, s, s+4, 0x2003, 0),
		build.Thread(w.d, s, s+5, 0x1000), build.Thread(w.d, s, s+6, 0x1008), build.Share(w.d, s, 0x3003, 1), build.Share(w.d, s, 0x4001, 2),
		life.Final(w.d, s), life.Spare(w.d, s, s+7), life.Spare(w.d, s, s+8))
	w.valid()
}

// draws: streams of all lengths.
func (c chance) draws() (streams [][]uint32) {
	for range c.Intn(4) {
		var stream []uint32
		for range c.Intn(6) {
			stream = append(stream, c.Uint32())
		}
		streams = append(streams, stream)
	}
	return roomy(streams...)
}

// Scripts of calls, over enclaves whose programs come by chance: each does just what the chapter's sentences say.
func TestScripts(t *testing.T) {
	seen := map[happened]int{}
	for seed := range int64(300) {
		c := seeded(2000 + seed)
		w := booted(t, 20, 4)
		w.seen, w.streams = seen, c.draws()
		w.raise(0, c.program(0))
		w.raise(9, c.program(9))
		for range 30 {
			page := []uint32{5, 5, 6, 14, 14, 15, uint32(c.Intn(22))}[c.Intn(7)]
			w.write(c.Intn(3), c.Intn(1024), c.Uint32())
			if e, _ := w.d.Entry(int(page)); e.Entered == (c.Intn(10) > 0) {
				w.resumes(page, c.fuel())
				continue
			}
			w.enters(page, c.fuel(), c.Uint32(), c.Uint32()%100, c.Uint32())
		}
	}
	allSeen(t, seen)
}

// allSeen: each way in which a run ends came often, and each call with all its codes; and such as could not be paid.
func allSeen(t *testing.T, seen map[happened]int) {
	t.Helper()
	for _, x := range []happened{
		{code: api.CodeInterrupted}, {code: api.CodeFault, value: 1}, {code: api.CodeFault, value: 2}, {code: api.CodeFault, value: 3},
		{code: api.CodeOK}, {code: api.CodeOK, value: 4}, {code: api.CodeEntered}, {code: api.CodeNotEntered}, {code: api.CodeThread}, {code: api.CodePage},
	} {
		x.answer = -2
		if seen[x] < 10 {
			t.Errorf("%+v comes %d times", x, seen[x])
		}
	}
	for n, codes := range [][]api.Code{
		api.SvcAttest: {api.CodeOK}, api.SvcVerify: {api.CodeOK, api.CodeMemory},
		api.SvcMap:    {api.CodeOK, api.CodeSpare, api.CodeMapping, api.CodeTable, api.CodeAddress},
		api.SvcUnmap:  {api.CodeOK, api.CodeData, api.CodeMapping, api.CodeTable, api.CodeAddress},
		api.SvcTable:  {api.CodeOK, api.CodeSpare, api.CodeArg, api.CodeAddress},
		api.SvcRandom: {api.CodeOK}, api.SvcSelf: {api.CodeOK},
	} {
		for _, code := range codes {
			if x := (happened{call: uint32(n), answer: int(code)}); seen[x] < 10 {
				t.Errorf("call %d answers %d only %d times", n, code, seen[x])
			}
		}
		if x := (happened{call: uint32(n), answer: -1}); n >= 1 && n <= 5 && seen[x] < 10 {
			t.Errorf("call %d can't be paid only %d times", n, seen[x])
		}
	}
}
