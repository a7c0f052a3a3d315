package valid_test

import (
	"math/rand"
	"testing"

	"warden/api"
	"warden/entry"
	"warden/pagedb"
	"warden/regs"
	"warden/sha"
	"warden/valid"
)

// grower: lets a state grow by steps that keep it valid, each of which takes pages as they come.
type grower struct {
	world
	*rand.Rand
}

// pick: some page of a type of which that is so; false without one.
func (g grower) pick(t entry.Type, so func(e entry.Entry) bool) (int, bool) {
	var list []int
	for page := range g.Pages() {
		if e, _ := g.Entry(page); e.Type == t && so(e) {
			list = append(list, page)
		}
	}
	if len(list) == 0 {
		return 0, false
	}
	return list[g.Intn(len(list))], true
}

func whatever(entry.Entry) bool { return true }

func (g grower) isStopped(space int) bool {
	e, _ := g.Entry(space)
	return e.State == entry.Stopped
}

// running: of a page that is no space.
func (g grower) running(e entry.Entry) bool { return !g.isStopped(e.Owner) }

func (g grower) word(page, off int) uint32 { return g.Memory().Peek(secure(page), off) }

// gap: a place of a table that is 0; false, if chance finds none.
func (g grower) gap(page, places int) (int, bool) {
	off := g.Intn(places)
	return off, g.word(page, off) == 0
}

func (g grower) newSpace() {
	a, okA := g.pick(entry.Free, whatever)
	b, okB := g.pick(entry.Free, whatever)
	if !okA || !okB || a == b || g.TakeSpace(a, b) != api.OK {
		return
	}
	d := sha.New()
	d.Add(make([]uint32, g.Intn(40)))
	saved := d.Save()
	g.lay(a, entry.SpaceDigest, saved[:])
	g.put(a, entry.SpaceDraws, uint32(g.Intn(4097)))
}

// newPage: of a space that isn't stopped; a table is named, data is mapped.
func (g grower) newPage() {
	page, ok := g.pick(entry.Free, whatever)
	space, is := g.pick(entry.Space, func(e entry.Entry) bool { return e.State != entry.Stopped })
	if !ok || !is {
		return
	}
	ours := func(e entry.Entry) bool { return e.Owner == space }
	switch t := []entry.Type{entry.Thread, entry.Second, entry.Data, entry.Spare}[g.Intn(4)]; t {
	case entry.Second:
		table := int(g.word(space, entry.SpaceFirst))
		if off, free := g.gap(table, 256); free {
			g.take(page, t, space)
			g.put(table, off, uint32(page)<<8|1)
		}
	case entry.Data:
		table, is := g.pick(entry.Second, ours)
		if off, free := g.gap(table, 1024); is && free {
			g.take(page, t, space)
			g.put(table, off, uint32(page)<<8|[]uint32{3, 7, 11, 15}[g.Intn(4)])
			g.put(page, g.Intn(1024), g.Uint32())
		}
	case entry.Thread:
		g.take(page, t, space)
		g.put(page, 0, g.Uint32())
	case entry.Spare:
		g.take(page, t, space)
	}
}

func (g grower) share() {
	table, is := g.pick(entry.Second, g.running)
	if off, free := g.gap(table, 1024); is && free {
		g.put(table, off, uint32(g.Intn(g.Memory().Insecure()))<<8|[]uint32{1, 5}[g.Intn(2)])
	}
}

func (g grower) finish() {
	space, is := g.pick(entry.Space, func(e entry.Entry) bool { return e.State == entry.Init })
	if !is {
		return
	}
	g.final(space)
	g.put(space, 3+g.Intn(8), g.Uint32())
}

// interrupt: a thread of a space that is final, with any file; or a thread that goes on again.
func (g grower) interrupt() {
	page, is := g.pick(entry.Thread, func(e entry.Entry) bool {
		space, _ := g.Entry(e.Owner)
		return space.State == entry.Final
	})
	if !is {
		return
	}
	on := g.Intn(3) > 0
	var words [17]uint32
	if on {
		words = regs.Pack(regs.Compare(regs.Start(g.Uint32(), g.Uint32(), 0, g.Uint32()), g.Uint32()%3, g.Uint32()%3))
	}
	g.ok("SetEntered", g.SetEntered(page, on))
	g.lay(page, entry.ThreadSaved, words[:])
}

// stop: and the pages of stopped spaces come back, or hold what they like.
func (g grower) stop() {
	if space, is := g.pick(entry.Space, whatever); is && g.Intn(4) == 0 {
		g.state(space, entry.Stopped)
	}
	for _, t := range []entry.Type{entry.First, entry.Second, entry.Data, entry.Thread} {
		if page, is := g.pick(t, func(e entry.Entry) bool { return !g.running(e) }); is && g.Intn(2) == 0 {
			g.ok("Give", g.Give(page))
		} else if is && t != entry.Thread {
			g.put(page, g.Intn(1024), g.anyWord())
		}
	}
	if page, is := g.pick(entry.Space, func(e entry.Entry) bool { return e.State == entry.Stopped && e.Refs == 0 }); is {
		g.ok("Give", g.Give(page))
	}
}

func (g grower) step() {
	switch g.Intn(12) {
	case 0, 1:
		g.newSpace()
	case 2, 3, 4, 5, 6:
		g.newPage()
	case 7:
		g.share()
	case 8:
		g.finish()
	case 9, 10:
		g.interrupt()
	case 11:
		g.stop()
	}
}

// anyWord: small numbers, descriptors, and others.
func (g grower) anyWord() uint32 {
	descriptor := uint32(g.Intn(g.Pages()+2))<<8 | 1
	switch g.Intn(6) {
	case 0:
		return g.Uint32()
	case 1:
		return uint32(g.Intn(9))
	case 2:
		return descriptor
	case 3, 4:
		return descriptor | uint32(g.Intn(8))*2
	}
	return 0
}

// anyOff: mostly where something stands, or at an edge.
func (g grower) anyOff(page int) int {
	if g.Intn(4) == 0 {
		return somewhere[g.Intn(len(somewhere))]
	}
	off := g.Intn(1024)
	for range 1024 {
		if g.word(page, off) != 0 {
			break
		}
		off = (off + 1) % 1024
	}
	return off
}

// harm: one word, or one entry, is another one, as nobody's call makes it.
func (g grower) harm() world {
	page := g.Intn(g.Pages())
	if g.Intn(3) > 0 {
		g.put(page, g.anyOff(page), g.anyWord())
		return g.world
	}
	return g.with(page, g.anyEntry())
}

func (g grower) anyEntry() entry.Entry {
	e := entry.Entry{Type: entry.Type(g.Intn(7))}
	if e.Type != entry.Free {
		e.Owner = g.Intn(g.Pages())
	}
	switch e.Type {
	case entry.Space:
		e.Refs, e.State = g.Intn(4), entry.State(1+g.Intn(3))
	case entry.Thread:
		e.Entered = g.Intn(2) == 0
	}
	return e
}

// TestGrowing: states that grow as the monitor's do are valid, behind every step; harmed ones break where the plain sums say.
func TestGrowing(t *testing.T) {
	var seen [13]int
	for seed := range int64(40) {
		r := rand.New(rand.NewSource(1300 + seed))
		g := grower{world{t, pagedb.New(memory(t, 2+r.Intn(15), 1+r.Intn(4)))}, r}
		for range 120 {
			g.step()
			if c, p := valid.Broken(g.DB); c != 0 || p != 0 {
				agrees(t, "grown", g.DB)
				t.Fatalf("seed %d: a step of this test breaks clause %d at page %d", seed, c, p)
			}
			if r.Intn(4) > 0 {
				continue
			}
			hurt := grower{world{t, g.Clone()}, r}
			for range 1 + r.Intn(4) {
				hurt.world = hurt.harm()
				agrees(t, "harmed", hurt.DB)
				c, _ := valid.Broken(hurt.DB)
				seen[c]++
			}
		}
	}
	for c, times := range seen {
		if times == 0 {
			t.Errorf("no state of this test breaks clause %d first (or, for 0, none)", c)
		}
	}
}

// TestLoose: entries that don't go together, over a memory of any words.
func TestLoose(t *testing.T) {
	for seed := range int64(400) {
		r := rand.New(rand.NewSource(13900 + seed))
		w := rows(t, uint32(r.Intn(4)), make([]entry.Entry, 1+r.Intn(7))...)
		g := grower{w, r}
		for page := range g.Pages() {
			g.world = g.with(page, g.anyEntry())
			for range r.Intn(3) * r.Intn(20) {
				g.put(page, g.anyOff(page), g.anyWord())
			}
		}
		agrees(t, "loose", g.DB)
	}
}
