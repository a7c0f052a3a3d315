package view_test

import (
	"math/rand"
	"strings"
	"testing"

	"warden/api"
	"warden/entry"
	"warden/monitor"
	"warden/view"
)

// chance: a world in which things come by chance.
type chance struct {
	world
	*rand.Rand
}

// sources: programs that never end, exit with what they hold, fault, share, draw, turn their pages.
func sources() []string {
	return []string{
		"x: b al x",
		"movi r3 0x1800\nldr r0 r3 0\nsvc 0",
		"movi r2 0x2000\nx: svc 6\nstr r1 r2 0\nadd r5 r5 r1\nb al x",
		"movi r2 0x3000\nx: addi r5 r5 3\nstr r5 r2 4\ncmpi r5 31\nb lo x\nmov r0 r5\nsvc 0",
		"movi r2 0x9000\nstr r2 r2 0",
		"mov r1 r0\nmovi r2 0x6003\nsvc 3\nsvc 0",
		"mov r1 r0\nmovi r2 9\nsvc 5\nx: b al x",
		"svc 1\nsvc 7\nmovi r0 7\nsvc 0",
	}
}

func (c chance) booted() chance {
	pages := 6 + c.Intn(14)
	streams := make([][]uint32, c.Intn(5))
	for k := range streams {
		streams[k] = make([]uint32, c.Intn(5))
		for j := range streams[k] {
			streams[k][j] = c.Uint32()
		}
	}
	c.world = booted(c.T, pages, 2+c.Intn(4), streams...)
	return c
}

func (c chance) page() uint32 { return uint32(c.Intn(c.m.DB().Pages() + 1)) }

// pageOf: mostly one of that type, if there is one.
func (c chance) pageOf(types ...entry.Type) uint32 {
	for range 12 {
		page := c.page()
		e, _ := c.m.DB().Entry(int(page))
		for _, t := range types {
			if e.Type == t && page < uint32(c.m.DB().Pages()) {
				return page
			}
		}
	}
	return c.page()
}

func (c chance) home() uint32 { return c.pageOf(entry.Space) }
func (c chance) free() uint32 { return c.pageOf(entry.Free) }
func (c chance) fuel() int    { return []int{0, 1, 5, 64, 65, 200, 500}[c.Intn(7)] }

func (c chance) mapping() uint32 {
	return uint32(1+c.Intn(6))<<12 | 1 | uint32(c.Intn(2))<<1 | uint32(c.Intn(5)/4)<<2
}

// call: one that mostly means something.
func (c chance) call() []uint32 {
	open := uint32(c.Intn(c.m.DB().Memory().Insecure()))
	thread := c.pageOf(entry.Thread)
	return [][]uint32{
		{api.CallSpace, c.free(), c.free()},
		{api.CallTable, c.home(), c.free(), uint32(c.Intn(2))},
		{api.CallTable, c.home(), c.free(), 0},
		{api.CallData, c.home(), c.free(), 0x1005, open},
		{api.CallData, c.home(), c.free(), c.mapping(), open},
		{api.CallShare, c.home(), c.mapping(), open},
		{api.CallShare, c.home(), 0x2003, open},
		{api.CallShare, c.home(), 0x3003, open},
		{api.CallThread, c.home(), c.free(), 0x1000},
		{api.CallSpare, c.home(), c.free()},
		{api.CallFinal, c.home()},
		{api.CallEnter, thread, c.pageOf(entry.Spare), c.Uint32(), 3},
		{api.CallEnter, thread, c.pageOf(entry.Spare), 1, 2},
		{api.CallResume, thread},
		{api.CallStop, c.home()},
		{api.CallRemove, c.page()},
		{api.CallRemove, c.pageOf(entry.Data, entry.Thread, entry.Second)},
		{c.Uint32()},
	}[c.Intn(18)]
}

// ahead: what the system lays ahead of a call.
func (c chance) ahead() func(m *monitor.Monitor) {
	page, source, word := c.Intn(c.m.DB().Memory().Insecure()), sources()[c.Intn(len(sources()))], c.Uint32()
	register, lays := c.Intn(16), c.Intn(6) == 0
	return func(m *monitor.Monitor) {
		if lays {
			world{T: c.T, m: m}.lay(page, source, word)
			m.SetRegister(register, word)
		}
	}
}

// step: something that the system does.
func (c chance) step() {
	c.Helper()
	c.ahead()(c.m)
	r := append(c.call(), 0, 0, 0, 0)
	c.m.Do(r[0], r[1], r[2], r[3], r[4], c.fuel())
}

func came(t *testing.T, seen map[string]int, want string) {
	t.Helper()
	for _, what := range strings.Split(want, ", ") {
		if seen[what] == 0 {
			t.Errorf("%q never came: %v", what, seen)
		}
	}
}

// Behind whatever calls: all that is told is what the chapter says.
func TestScripts(t *testing.T) {
	seen := map[string]int{}
	for seed := range int64(40) {
		c := chance{world{T: t}, rand.New(rand.NewSource(2500 + seed))}.booted()
		c.seen = seen
		for n := range 150 {
			c.step()
			if n%5 == 0 {
				birth := c.Intn(c.m.DB().Births()+2) - 1
				c.held(birth)
				c.plant(birth, c.Uint32()>>c.Intn(32), make([]uint32, []int{0, 1, 5, 4096, 4097}[c.Intn(5)]))
			}
		}
		if t.Failed() {
			t.Fatalf("the seed %d", seed)
		}
	}
	came(t, seen, "Space 0, Space 92, Released 0, Released 92, Released pages, Plant 0, Plant 92, Plant 210")
}

// disturb: a word or an entry becomes another one past the machine's face.
func (c chance) disturb() {
	d := c.m.DB()
	page := c.Intn(d.Pages())
	home := plainSpace(d, c.Intn(d.Births()+1))
	switch c.Intn(12) {
	case 0:
		d.Take(page, entry.Type(c.Intn(8)), home)
	case 1:
		d.Give(page)
	case 2:
		d.SetState(page, entry.State(c.Intn(4)))
	case 3:
		d.SetEntered(page, c.Intn(2) == 0)
	case 4:
		d.TakeSpace(page, c.Intn(d.Pages()))
	case 5:
		d.Turn(page, []entry.Type{entry.Second, entry.Data, entry.Spare}[c.Intn(3)])
	default:
		off := []int{0, 1, 2, 3, c.Intn(8), c.Intn(256), c.Intn(1024)}[c.Intn(7)]
		v := []uint32{0, 1, c.Uint32() % 64, uint32(c.Intn(d.Pages()+1))<<8 | c.Uint32()%16, uint32(c.Intn(6))<<12 | c.Uint32()%16, c.Uint32()}[c.Intn(6)]
		d.Memory().Write(secure(page), off, v)
	}
}

// Whoever wrote the words, past the machine's face too: the calls go by what stands there.
func TestScriptsPastTheFace(t *testing.T) {
	seen := map[string]int{}
	for seed := range int64(60) {
		c := chance{world{T: t}, rand.New(rand.NewSource(2600 + seed))}.booted()
		c.seen = seen
		for n := range 100 {
			c.step()
			if n > 60 {
				c.disturb()
			}
			if n%4 == 0 {
				birth := c.Intn(6) - 1
				c.held(birth)
				c.plant(birth, c.Uint32(), nil)
			}
		}
		if t.Failed() {
			t.Fatalf("the seed %d", seed)
		}
	}
	came(t, seen, "Space 0, Space 92, Released 0, Released 92, Released pages, Plant 0, Plant 92, Plant 211")
}

// ran: does the call run a thread of that birth?
func ran(m *monitor.Monitor, birth int, r []uint32) bool {
	if r[0] != api.CallEnter && r[0] != api.CallResume || r[1] >= uint32(m.DB().Pages()) {
		return false
	}
	k := entries(m.DB())[r[1]]
	return k.kind == threadType && k.owner == plainSpace(m.DB(), birth)
}

// follow: the same steps on the machine and on the one that was planted, as long as both let out the same: nothing is seen otherwise.
func (c chance) follow(birth int, seen map[string]int) {
	c.Helper()
	p, e := c.plant(birth, c.Uint32(), []uint32{c.Uint32()})
	if e != api.OK {
		return
	}
	for range 25 {
		ahead := c.ahead()
		ahead(c.m)
		ahead(p)
		r, fuel := append(c.call(), 0, 0, 0, 0), c.fuel()
		runs := ran(c.m, birth, r)
		codeA, valueA := c.m.Do(r[0], r[1], r[2], r[3], r[4], fuel)
		codeB, valueB := p.Do(r[0], r[1], r[2], r[3], r[4], fuel)
		if runs {
			a, ea := view.Released(c.m, birth, codeA, valueA)
			b, eb := view.Released(p, birth, codeB, valueB)
			if ea != eb || !view.Alike(a, b) {
				seen["let"]++
				return
			}
			seen["alike"]++
		}
		if part := view.Part(view.Of(c.m, birth), view.Of(p, birth)); part != "" {
			c.Fatalf("W2: behind %v: %s", r, part)
		}
	}
	seen["through"]++
}

func TestPlantedMachinesUnderOneScript(t *testing.T) {
	seen := map[string]int{}
	for seed := range int64(60) {
		c := chance{world{T: t}, rand.New(rand.NewSource(2700 + seed))}.booted()
		c.seen = map[string]int{}
		for range 60 {
			c.step()
		}
		for range 4 {
			c.follow(c.Intn(c.m.DB().Births()+1), seen)
		}
		if t.Failed() {
			t.Fatalf("the seed %d", seed)
		}
	}
	came(t, seen, "let, alike, through")
}
