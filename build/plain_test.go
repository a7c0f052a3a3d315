package build_test

import (
	"slices"

	"warden/api"
	"warden/entry"
	"warden/sha"
)

// plain: a machine as the chapter's sentences tell it: pages as lists of words, entries, births, and of each space the words of what was taken for it.
type plain struct {
	secure, insecure [][]uint32
	entries          []entry.Entry
	births           int
	measured         map[uint32][]uint32
}

func blank(pages int) [][]uint32 {
	all := make([][]uint32, pages)
	for i := range all {
		all[i] = make([]uint32, 1024)
	}
	return all
}

func newPlain(secure, insecure int) *plain {
	return &plain{secure: blank(secure), insecure: blank(insecure), entries: make([]entry.Entry, secure), measured: map[uint32][]uint32{}}
}

// applies: a line of a call's list of codes: whether it is so, and the code.
type applies struct {
	so   bool
	code api.Code
}

// first: the code of the first that applies; CodeOK, if none does.
func first(list ...applies) api.Code {
	for _, a := range list {
		if a.so {
			return a.code
		}
	}
	return api.CodeOK
}

func (p *plain) noPage(w uint32) bool { return uint64(w) >= uint64(len(p.secure)) }

func (p *plain) noInsecure(w uint32) bool { return uint64(w) >= uint64(len(p.insecure)) }

// entry: of any word; of one that is no page's the entry of none.
func (p *plain) entry(w uint32) entry.Entry {
	if p.noPage(w) {
		return entry.Entry{Type: entry.Types}
	}
	return p.entries[w]
}

func (p *plain) used(w uint32) bool { return p.entry(w).Type != entry.Free }

// begun: what all calls but Space begin with.
func (p *plain) begun(space uint32) []applies {
	return []applies{
		{p.noPage(space), api.CodePage},
		{p.entry(space).Type != entry.Space, api.CodeSpace},
		{p.entry(space).State != entry.Init, api.CodeFinal},
	}
}

// firstLevel: the words of a space's first-level table; none of what is no space.
func (p *plain) firstLevel(space uint32) []uint32 {
	if p.entry(space).Type != entry.Space || p.entry(space).State == entry.Stopped {
		return nil
	}
	return p.secure[p.secure[space][0]]
}

// place: where a mapping's descriptor stands, as the words from it on; none, if there is no second-level table for it.
func (p *plain) place(space, mapping uint32) []uint32 {
	table := p.firstLevel(space)
	index := mapping / 0x400000
	if index > 255 || table == nil || table[index] == 0 {
		return nil
	}
	return p.secure[table[index]/256][mapping/0x1000%1024:]
}

func noMapping(w uint32) bool {
	return w%2 == 0 || w%4096 > 7 || w >= 0x40000000
}

func says(w, bit uint32) bool { return w/bit%2 == 1 }

// measure: a space's list has these words more; its digest is that of all.
func (p *plain) measure(space uint32, words ...uint32) {
	p.measured[space] = append(slices.Clone(p.measured[space]), words...)
	d := sha.New()
	d.Add(p.measured[space])
	saved := d.Save()
	copy(p.secure[space][11:], saved[:])
}

func (p *plain) own(space, page uint32, t entry.Type) {
	p.entries[page] = entry.Entry{Type: t, Owner: int(space)}
	p.entries[space].Refs++
}

func (p *plain) Space(space, table uint32) api.Code {
	code := first(
		applies{p.noPage(space), api.CodePage},
		applies{p.noPage(table), api.CodePage},
		applies{space == table, api.CodeArg},
		applies{p.used(space), api.CodeUsed},
		applies{p.used(table), api.CodeUsed},
		applies{p.births == 64, api.CodeStreams},
	)
	if code == api.CodeOK {
		p.entries[space] = entry.Entry{Type: entry.Space, Owner: int(space), State: entry.Init}
		p.own(space, table, entry.First)
		p.secure[space][0], p.secure[space][1] = table, uint32(p.births)
		p.births++
		p.measured[space] = nil
		p.measure(space)
	}
	return code
}

func (p *plain) Thread(space, page, begins uint32) api.Code {
	code := first(append(p.begun(space),
		applies{p.noPage(page), api.CodePage},
		applies{p.used(page), api.CodeUsed},
	)...)
	if code == api.CodeOK {
		p.own(space, page, entry.Thread)
		p.secure[page][0] = begins
		p.measure(space, 1, begins)
	}
	return code
}

func (p *plain) Table(space, page, index uint32) api.Code {
	table := p.firstLevel(space)
	code := first(append(p.begun(space),
		applies{p.noPage(page), api.CodePage},
		applies{index > 255, api.CodeArg},
		applies{p.used(page), api.CodeUsed},
		applies{table != nil && table[index%1024] != 0, api.CodeAddress},
	)...)
	if code == api.CodeOK {
		p.own(space, page, entry.Second)
		table[index] = 256*page + 1
		p.measure(space, 2, index)
	}
	return code
}

func (p *plain) Data(space, page, mapping, insecure uint32) api.Code {
	place := p.place(space, mapping)
	code := first(append(p.begun(space),
		applies{p.noPage(page), api.CodePage},
		applies{noMapping(mapping), api.CodeMapping},
		applies{p.noInsecure(insecure), api.CodeInsecure},
		applies{p.used(page), api.CodeUsed},
		applies{place == nil, api.CodeTable},
		applies{place != nil && place[0] != 0, api.CodeAddress},
	)...)
	if code == api.CodeOK {
		p.own(space, page, entry.Data)
		copy(p.secure[page], p.insecure[insecure])
		place[0] = 256*page + 3 + mapping%8/2*4
		p.measure(space, append([]uint32{3, mapping}, p.insecure[insecure]...)...)
	}
	return code
}

func (p *plain) Share(space, mapping, insecure uint32) api.Code {
	place := p.place(space, mapping)
	code := first(append(p.begun(space),
		applies{noMapping(mapping) || says(mapping, 4), api.CodeMapping},
		applies{p.noInsecure(insecure), api.CodeInsecure},
		applies{place == nil, api.CodeTable},
		applies{place != nil && place[0] != 0, api.CodeAddress},
	)...)
	if code == api.CodeOK {
		place[0] = 256*insecure + 1
		if says(mapping, 2) {
			place[0] += 4
		}
		p.measure(space, 4, mapping)
	}
	return code
}
