package monitor_test

import (
	"testing"

	"warden/api"
	"warden/entry"
	"warden/monitor"
	"warden/pagedb"
	"warden/valid"
)

// odd: a word of a page by chance, at a place where something is kept.
func (c chance) odd(d *pagedb.DB) {
	page := c.Intn(d.Pages())
	off := []int{0, 1, 2, 3 + c.Intn(34), c.Intn(64), c.Intn(1024)}[c.Intn(6)]
	v := c.word(0, 1, c.Uint32()%5, c.Uint32()%4100, c.Uint32(), uint32(c.Intn(d.Memory().Insecure()))<<8|c.word(1, 5, 9, 13), 0x800000)
	if e, _ := d.Entry(page); e.Type == entry.Free && c.Intn(10) > 0 {
		return
	}
	d.Memory().Write(secure(page), off, v)
}

// oddState: the state with words that no calls leave, but a valid one; and how many there are of these.
func (c chance) oddState(d *pagedb.DB) (*pagedb.DB, int) {
	kept := 0
	for range 60 {
		other := d.Clone()
		if c.Intn(20) == 0 {
			words := d.Words()
			words[0] = uint32(c.Intn(65))
			other, _ = pagedb.Load(other.Memory(), words)
		}
		c.odd(other)
		if clause, _ := valid.Broken(other); clause == 0 && (!other.Memory().Same(d.Memory()) || other.Births() != d.Births()) {
			d = other
			kept++
		}
	}
	return d, kept
}

// Over each valid state, whether or not calls could have led there, a machine can be set up, and all calls keep to their promises.
func TestScriptsOverOddStates(t *testing.T) {
	seen, kept := map[called]int{}, 0
	for seed := range int64(200) {
		c := seeded(2150 + seed)
		pages, shared := 8+c.Intn(9), 1+c.Intn(3)
		w := booted(t, monitor.Config{Secure: pages, Insecure: shared, Streams: c.draws()})
		w.seen = seen
		w.write(0, 0, c.program(pages)...)
		c.raiseSome(w, 0, uint32(shared))
		for range 30 {
			c.step(w, pages, shared)
		}
		d, n := c.oddState(w.m.DB())
		kept += n
		m, e := monitor.Over(w.m.Config(), d, w.m.Registers())
		if e != api.OK {
			t.Fatalf("P21.2: Over a valid state: %d", e)
		}
		w.m, w.plain.d = m, d.Clone()
		for range 40 {
			c.step(w, pages, shared)
		}
	}
	if kept < 1000 || seen[called{17, api.CodeOK}] < 5 || seen[called{18, api.CodeFault}] < 10 {
		t.Errorf("%d odd words in all; %v", kept, seen)
	}
}
