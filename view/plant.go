package view

import (
	"warden/api"
	"warden/entry"
	"warden/monitor"
)

// The words of an interrupted thread's page behind those of its registers and its address: its flags.
const threadFlags = entry.ThreadUsed - 1

// Plant: another machine that differs from this one in the secrets of the enclave of that birth alone: its data pages' words, its interrupted threads' files, the number of its draws (up to MaxDraws) become others, drawn out of seed; its stream becomes draws. It is valid, if this one is. As Space; ErrConfig (more than MaxDraws draws); ErrBroken (this one isn't valid).
func Plant(m *monitor.Monitor, birth int, seed uint32, draws []uint32) (*monitor.Monitor, api.Errno) {
	if _, e := Space(m, birth); e != api.OK {
		return nil, e
	}
	if len(draws) > api.MaxDraws {
		return nil, api.ErrConfig
	}
	c := m.Clone()
	// Asked ahead of planting, which may lay a word that was wrong anew.
	if _, e := monitor.Over(c.Config(), c.DB(), c.Registers()); e != api.OK {
		return nil, e
	}
	find(c.DB(), birth).plant(seeded(seed))
	return monitor.Over(streamed(c.Config(), birth, draws), c.DB(), c.Registers())
}

// streamed: the configuration with these draws for the birth, which is one of a valid state.
func streamed(c monitor.Config, birth int, draws []uint32) monitor.Config {
	for len(c.Streams) <= birth {
		c.Streams = append(c.Streams, nil)
	}
	c.Streams[birth] = draws
	return c
}

// plant: the enclave's secrets become others.
func (e enclave) plant(g *generator) {
	for page := range pages(e.db.Pages(), e.has) {
		at, _ := e.db.Entry(page)
		switch {
		case page == e.space:
			e.lay(page, entry.SpaceDraws, g.below(api.MaxDraws+1))
		case at.Type == entry.Data:
			e.layDraws(page, 0, api.PageWords, g)
		case at.Entered:
			e.layDraws(page, entry.ThreadSaved, threadFlags, g)
			e.lay(page, threadFlags, g.flags())
		}
	}
}

func (e enclave) lay(page, off int, w uint32) {
	e.db.Memory().Write(secure(page), off, w)
}

// layDraws: a draw for each word from one on, ahead of another.
func (e enclave) layDraws(page, from, to int, g *generator) {
	for off := from; off < to; off++ {
		e.lay(page, off, g.draw())
	}
}

// generator: of words that one seed settles.
type generator struct{ x uint32 }

// seeded: of 0 nothing but 0 would ever come.
func seeded(seed uint32) *generator {
	if seed == 0 {
		seed = 1
	}
	return &generator{seed}
}

func (g *generator) draw() uint32 {
	g.x ^= g.x << 13
	g.x ^= g.x >> 17
	g.x ^= g.x << 5
	return g.x
}

func (g *generator) below(bound uint32) uint32 { return g.draw() % bound }

// flags: no other words are a file's.
func (g *generator) flags() uint32 {
	return [...]uint32{0, 1, 2, 4, 6}[g.below(5)]
}
