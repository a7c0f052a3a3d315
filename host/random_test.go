package host_test

import (
	"math/rand"
	"slices"
	"strings"
	"testing"

	"warden/api"
	"warden/host"
	"warden/image"
)

// sources: programs that exit, fault, or never end; that count in a share, draw, attest, turn their pages.
func sources() []string {
	return []string{
		plus, loop, draw, log, turnover,
		"word 0",
		"movi r3 0x5000\nldr r0 r3 0\nsvc 0",
		"movi r2 0x2000\nx: ldr r3 r2 0\nadd r3 r3 r0\nstr r3 r2 0\naddi r1 r1 -1\ncmpi r1 0\nb ne x\nmov r0 r3\nsvc 0",
		"movi r4 0x2000\nmovi r5 0\nx: svc 6\nstx r1 r4 r5\naddi r5 r5 4\nb al x",
		"movi r5 0x4000\nldr r1 r5 0\naddi r1 r1 1\nstr r1 r5 0\nmov r9 r1\nsvc 1\nldr r2 r5 0\nadd r0 r8 r9\nsvc 0",
		"svc 7\nmovi r5 0x2000\nstr r1 r5 0\nstr r8 r5 4\nmov r0 r3\nsvc 0",
		"mov r9 r0\nx: mov r1 r9\nmovi r2 0x6003\nsvc 3\nmovi r3 0x6000\nstr r9 r3 0\nmov r1 r9\nmovi r2 0x6003\nsvc 4\nb al x",
	}
}

// chance: a world in which things come by chance.
type chance struct {
	world
	*rand.Rand
}

// image: a program with some of the pages that it may ask for.
func (c chance) image() image.Image {
	c.Helper()
	if c.Intn(12) == 0 {
		return image.Image{Parts: slices.Repeat([]image.Part{{Kind: image.Kind(c.Intn(7))}}, c.Intn(3))}
	}
	var lines []string
	for _, line := range []string{"spare", "share 0x2000 rw", "share 0x3000 r", "thread 0x1004", "thread 0x1000", "spare", "data 0x4000 rw\nword 5 6 7\nend"} {
		if c.Intn(2) == 0 {
			lines = append(lines, line)
		}
	}
	c.Shuffle(len(lines), func(i, j int) { lines[i], lines[j] = lines[j], lines[i] })
	all := sources()
	return program(c.T, all[c.Intn(len(all))], lines...)
}

// id: mostly one that lives.
func (c chance) id() int {
	live := c.h.Live()
	if len(live) == 0 || c.Intn(12) == 0 {
		return c.Intn(c.p.loads+3) - 1
	}
	return live[c.Intn(len(live))]
}

func (c chance) fuel() int { return []int{0, 1, 5, 63, 64, 65, 200, 1000, -1, c.Intn(300)}[c.Intn(10)] }

// argument: often a page that some enclave may turn.
func (c chance) argument() uint32 {
	return []uint32{0, 1, uint32(c.Intn(30)), uint32(c.Intn(30)), c.Uint32()}[c.Intn(5)]
}

func (c chance) job() host.Job {
	return host.Job{Id: c.id(), Thread: c.Intn(16)/5 - c.Intn(9)/8, A: c.argument(), B: c.argument(), C: c.argument()}
}

func (c chance) jobs() []host.Job {
	jobs := make([]host.Job, c.Intn(9))
	for k := range jobs {
		jobs[k] = c.job()
	}
	return jobs
}

// step: any call of the host's.
func (c chance) step() {
	c.Helper()
	switch c.Intn(16) {
	case 0, 1, 2:
		c.load(c.image())
	case 3:
		c.drop(c.id())
	case 4:
		c.grow(c.id())
	case 5, 6:
		c.peek(c.id(), c.Intn(3)-c.Intn(8)/7, c.Intn(6)-c.Intn(8)/7)
	case 7:
		c.poke(c.id(), c.Intn(3), []int{0, 1, 1023, 1024, -1}[c.Intn(5)], c.Uint32()>>c.Intn(33))
	case 8, 9:
		c.run(c.job(), c.fuel())
	case 10, 11:
		c.goOn(c.id(), c.Intn(3), c.fuel())
	case 12:
		c.turns(c.jobs(), c.fuel(), []int{0, 1, 2, 3, 7, 40, 4097}[c.Intn(7)])
	default:
		c.turns(c.jobs(), c.fuel(), 1+c.Intn(9))
	}
}

// disturb: a call of somebody else's, with numbers that mostly mean something.
func (c chance) disturb() {
	c.Helper()
	pages := uint32(len(c.p.secure))
	n := []uint32{10, 10, 11, 12, 13, 14, 15, 15, 16, 17, 17, 18, 18, 19, 20, 20, 20}[c.Intn(17)]
	number := func() uint32 { return c.Uint32() % (pages + 1) }
	c.foreign(n, number(), number(), number()<<12+3, number(), c.fuel())
}

func scripted(t *testing.T, name string, seeds, long int, also func(chance)) map[string]int {
	t.Helper()
	seen := map[string]int{}
	for seed := range int64(seeds) {
		r := rand.New(rand.NewSource(2400 + seed))
		c := chance{made(t, 6+r.Intn(35), 2+r.Intn(8)), r}
		for range long {
			c.step()
			also(c)
		}
		for what, n := range c.seen {
			seen[what] += n
		}
		for _, id := range c.h.Live() {
			c.drop(id)
		}
		if t.Failed() {
			t.Fatalf("%s: the seed %d", name, seed)
		}
	}
	return seen
}

// came: that all these answers were among those that came.
func came(t *testing.T, seen map[string]int, want string) {
	t.Helper()
	for _, what := range strings.Split(want, ", ") {
		if seen[what] == 0 {
			t.Errorf("%q never came: %v", what, seen)
		}
	}
}

// Whatever the host is asked, it and its machine are as the chapter's sentences have them, step by step. Nobody else being there, the monitor refuses nothing, and all pages are those of the enclaves and the free ones.
func TestScripts(t *testing.T) {
	seen := scripted(t, "alone", 60, 120, func(c chance) {
		d := c.h.Machine().DB()
		taken := 0
		for _, id := range c.h.Live() {
			pages, _ := c.h.Pages(id)
			taken += len(pages)
			for _, page := range pages {
				if e, _ := d.Entry(page); e.Owner != c.p.all[id].space {
					c.Fatalf("P24.3: page %d of %d is %+v", page, id, e)
				}
			}
		}
		if free, _ := c.h.Free(); free != d.Free() || free+taken != d.Pages() {
			c.Fatalf("P24.8: %d pages are free, %d for the host; enclaves have %d", d.Free(), free, taken)
		}
	})
	came(t, seen, "Load 0 0, Load 230 0, Load 240 0, Drop 0 0, Drop 241 0, Grow 0 0, Grow 241 0, Grow 240 0, Peek 0 0, Peek 241 0, Peek 4 0, Poke 0 0, Poke 241 0, Poke 4 0")
	came(t, seen, "Run 0 0, Run 0 9, Run 0 10, Run 241 0, Run 243 0, Go 0 0, Go 0 9, Go 0 10, Go 241 0, Go 3 0, Turns 0 0, Turns 0 9, Turns 0 10, Turns 241 0, Turns 243 0, Turns 1 0")
	for _, what := range []string{"Load 242 0", "Grow 242 0"} {
		if seen[what] > 0 {
			t.Errorf("P24.7: %q came, though nobody else is there", what)
		}
	}
}

// The sentences hold also where somebody else calls the monitor between, takes pages and stops spaces.
func TestScriptsAmongOthers(t *testing.T) {
	seen := scripted(t, "among others", 60, 120, func(c chance) {
		for range c.Intn(3) {
			c.disturb()
		}
	})
	came(t, seen, "Load 0 0, Load 240 0, Load 242 0, Grow 0 0, Grow 242 0, Run 0 11, Run 0 5, Go 0 12, Go 0 5, Turns 0 5")
}

// As long as nobody has spent the births a Load is refused by nobody: it is OK, or there are too few pages.
func TestLoadsUntilTheBirthsAreSpent(t *testing.T) {
	for seed := range int64(6) {
		c := chance{made(t, 30, 6), rand.New(rand.NewSource(seed))}
		for births := 0; births < 64; {
			i := c.image()
			_, e := c.load(i)
			switch {
			case e == api.OK:
				births++
				want, _ := image.Measure(i)
				if got := c.measured(c.p.all[c.p.loads-1].space); got != want {
					t.Fatalf("P24.8: the measurement is %x; want %x", got, want)
				}
			case e == api.ErrFull:
				c.drop(c.id())
			case e != api.ErrImage:
				t.Fatalf("P24.2: Load: %d", e)
			}
		}
		for _, id := range c.h.Live() {
			c.drop(id)
		}
		for range 5 {
			if _, e := c.load(c.image()); e != api.ErrRefused && e != api.ErrImage {
				t.Errorf("P24.2: Load behind the last birth: %d", e)
			}
		}
	}
}
