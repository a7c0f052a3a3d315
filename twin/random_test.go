package twin_test

import (
	"math/rand"
	"strings"
	"testing"

	"warden/api"
	"warden/asm"
	"warden/entry"
	"warden/monitor"
	"warden/twin"
	"warden/view"
)

// chance: a world in which things come by chance.
type chance struct {
	world
	*rand.Rand
}

// sources: programs that exit with what they hold, never end, keep it, let it out at times, share it, draw, turn their pages.
func sources() []string {
	return []string{
		"movi r1 0x2000\nldr r0 r1 0\nsvc 0",
		"movi r1 0x2000\nx: ldr r2 r1 0\nadd r3 r3 r2\nstr r3 r1 4\nb al x",
		"movi r1 0x2000\nldr r2 r1 0\nadd r2 r2 r0\nstr r2 r1 0\nmovi r0 0\nsvc 0",
		"movi r1 0x3000\nldr r2 r1 0\ncmpi r2 9\nb lo x\nmovi r1 0x2000\nldr r0 r1 8\nsvc 0\nx: movi r0 1\nsvc 0",
		"movi r2 0x3000\nx: svc 6\nstr r1 r2 0\nb al x",
		"x: svc 6\nadd r5 r5 r1\nb al x",
		"mov r1 r0\nmovi r2 0x6003\nsvc 3\nmovi r0 0\nsvc 0",
		"mov r1 r0\nmovi r2 9\nsvc 5\nx: b al x",
		"svc 1\nsvc 7\nmovi r0 7\nsvc 0",
		"movi r2 0x9000\nstr r2 r2 0",
	}
}

func (c chance) booted() chance {
	streams := make([][]uint32, c.Intn(5))
	for k := range streams {
		streams[k] = make([]uint32, c.Intn(5))
		for j := range streams[k] {
			streams[k][j] = c.Uint32()
		}
	}
	c.world = booted(c.T, 16+c.Intn(4), 2+c.Intn(3), streams...)
	return c
}

func (c chance) source() string { return sources()[c.Intn(len(sources()))] }

func (c chance) page() uint32 { return uint32(c.Intn(c.m.DB().Pages() + 1)) }

// pageOf: mostly one of that type, if there is one.
func (c chance) pageOf(types ...entry.Type) uint32 {
	for range 12 {
		page := c.page()
		at, _ := c.m.DB().Entry(int(page))
		for _, t := range types {
			if at.Type == t && page < uint32(c.m.DB().Pages()) {
				return page
			}
		}
	}
	return c.page()
}

func (c chance) home() uint32 { return c.pageOf(entry.Space) }
func (c chance) free() uint32 { return c.pageOf(entry.Free) }

// thread: one, and whether it is mostly to be entered or to be resumed.
func (c chance) thread() (page, v uint32) {
	page = c.pageOf(entry.Thread)
	if at, _ := c.m.DB().Entry(int(page)); at.Entered != (c.Intn(8) == 0) {
		return page, api.CallResume
	}
	return page, api.CallEnter
}

func (c chance) mapping() uint32 {
	return uint32(1+c.Intn(6))<<12 | 1 | uint32(c.Intn(2))<<1
}

// call: one that mostly means something.
func (c chance) call() twin.Step {
	s := called(c.words()...)
	s.Fuel = []int{0, 1, 5, 64, 65, 200, 500}[c.Intn(7)]
	return s
}

func (c chance) words() []uint32 {
	open := uint32(c.Intn(c.m.DB().Memory().Insecure()))
	if c.Intn(2) == 0 {
		thread, v := c.thread()
		return []uint32{v, thread, []uint32{c.pageOf(entry.Spare), c.Uint32() % 8, c.Uint32()}[c.Intn(3)], c.Uint32() % 3}
	}
	return [][]uint32{
		{api.CallSpace, c.free(), c.free()},
		{api.CallTable, c.home(), c.free(), uint32(c.Intn(2))},
		{api.CallData, c.home(), c.free(), 0x1005, open},
		{api.CallData, c.home(), c.free(), 0x2003, open},
		{api.CallShare, c.home(), c.mapping(), open},
		{api.CallShare, c.home(), 0x3003, open},
		{api.CallThread, c.home(), c.free(), 0x1000},
		{api.CallSpare, c.home(), c.free()},
		{api.CallSpare, c.home(), c.free()},
		{api.CallFinal, c.home()},
		{[]uint32{api.CallFinal, api.CallStop}[c.Intn(6)/5], c.home()},
		{api.CallRemove, c.page()},
		{api.CallRemove, c.pageOf(entry.Data, entry.Thread, entry.Second)},
		{c.Uint32() % 24, c.page(), c.page()},
	}[c.Intn(14)]
}

// script: some steps, each of which means something where the machine has come by those ahead of it. The machine goes along.
func (c chance) script(calls int) (steps []twin.Step) {
	c.Helper()
	do := func(s twin.Step) {
		c.step(s)
		steps = append(steps, s)
	}
	for range calls {
		switch c.Intn(9) {
		case 0:
			words, _ := asm.Assemble(c.source(), 0x1000)
			page := uint32(c.Intn(c.m.DB().Memory().Insecure()))
			for off, v := range words {
				do(twin.Step{Kind: twin.Write, V: v, A: page, B: uint32(off)})
			}
			do(twin.Step{Kind: twin.Write, V: 5, A: page, B: api.PageWords + uint32(c.Intn(3)) - 1})
		case 2:
			do(twin.Step{Kind: twin.Set, V: c.Uint32(), A: uint32(c.Intn(16))})
		case 3:
			do(twin.Step{Kind: twin.Kind(c.Intn(5) - 1), V: uint32(c.Intn(20)), A: uint32(c.Intn(6)), B: uint32(c.Intn(1100)), Fuel: 5})
		}
		do(c.call())
	}
	return steps
}

func came(t *testing.T, seen map[string]int, want string) {
	t.Helper()
	for _, what := range strings.Split(want, ", ") {
		if seen[what] == 0 {
			t.Errorf("%q never came: %v", what, seen)
		}
	}
}

// begun: a machine on which two enclaves stand, or one, and on which something has been going on.
func begun(t *testing.T, n int64, seen map[string]int) chance {
	c := chance{world{T: t}, rand.New(rand.NewSource(n))}.booted()
	c.seen = seen
	c.raise(0, c.source(), 1, c.Uint32()%12)
	if c.Intn(3) > 0 {
		c.raise(7, c.source(), 1, c.Uint32()%12)
	}
	c.script(c.Intn(15))
	return c
}

// other: the same machine, with other secrets of the enclave of that birth; all of them, or some of its data alone. The machine's clone, if there is no such enclave.
func (c chance) other(birth int) *monitor.Monitor {
	c.Helper()
	if c.Intn(3) == 0 {
		p, e := view.Plant(c.m, birth, c.Uint32(), []uint32{c.Uint32()})
		if e == api.OK {
			return p
		}
	}
	n := c.m.Clone()
	home, e := view.Space(n, birth)
	for page := range n.DB().Pages() {
		at, _ := n.DB().Entry(page)
		// Its program mostly stays: that is a page in which more than a word or two stand at the beginning.
		if e != api.OK || at.Type != entry.Data || at.Owner != home || n.DB().Memory().Peek(secure(page), 2) != 0 && c.Intn(6) > 0 {
			continue
		}
		for off := range c.Intn(4) {
			n.DB().Memory().Write(secure(page), off, c.Uint32()%20)
		}
	}
	return n
}

// Under whatever script: a machine and another one with other secrets. Nothing is ever seen to part; all is as the plain calls have it.
func TestScripts(t *testing.T) {
	seen := map[string]int{}
	for seed := range int64(40) {
		c := begun(t, 2600+seed, seen)
		births := c.m.DB().Births()
		for range 3 {
			was := c.m.Clone()
			birth := c.Intn(births+2) - 1
			other := c.other(birth)
			steps := c.script(15)
			w := world{t, was, seen}
			if r, e := w.held(other, birth, steps); r.End == twin.Parted || e != api.OK {
				t.Fatalf("P26.7: the seed %d, birth %d: %+v, %d", seed, birth, r, e)
			}
			w.trace(steps)
			for k := range 20 {
				w.runs(c.call(), birth)
				w.runs(steps[k%len(steps)], c.Intn(births+1))
			}
		}
	}
	came(t, seen, "Do 0, Do 1, Do 4, Do 5, Runs true, Runs false, Compare 0 0, Compare 2 0")
}

// Machines that part in more: whichever birth is asked for, whatever was written past the face, all is as the plain calls have it.
func TestScriptsOfUnlikeMachines(t *testing.T) {
	seen := map[string]int{}
	for seed := range int64(40) {
		c := begun(t, 2700+seed, seen)
		births := c.m.DB().Births()
		for range 4 {
			birth := c.disturb()
			was := c.m.Clone()
			other := c.other(birth)
			if c.Intn(8) == 0 {
				birth = c.Intn(births + 1)
			}
			steps := c.script(15)
			w := world{t, was, seen}
			w.held(other, birth, steps)
			w.runs(c.call(), birth)
		}
	}
	came(t, seen, "Compare 0 0, Compare 1 0, Compare 2 0, Compare 0 210, Compare 0 211")
}

// disturb: an enclave has another one's page where its data were, or what it shares. The birth of the other one.
func (c chance) disturb() int {
	page := int(c.pageOf(entry.Second))
	of := int(c.pageOf(entry.Data)) % c.m.DB().Pages()
	at, _ := c.m.DB().Entry(page)
	its, _ := c.m.DB().Entry(of)
	if at.Type == entry.Second && at.Owner != its.Owner {
		c.m.DB().Memory().Write(secure(page), 2+c.Intn(2), uint32(of)<<8|3|uint32(c.Intn(2))<<2)
	}
	return int(c.m.DB().Memory().Peek(secure(its.Owner), entry.SpaceBirth))
}
