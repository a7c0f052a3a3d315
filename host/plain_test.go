package host_test

import (
	"maps"
	"slices"

	"warden/api"
	"warden/entry"
	"warden/host"
	"warden/image"
	"warden/monitor"
)

// plain: the chapter's sentences, over a machine of its own: who has each page stands in two lists.
type plain struct {
	m        *monitor.Monitor
	secure   []int // by page: the enclave that has it; nobody
	insecure []int
	all      map[int]*tenant
	loads    int
}

const (
	nobody = -1
	self   = -2
)

type tenant struct {
	space   int
	shares  []int
	threads []int
	cut     map[int]bool // of threads by number: interrupted
}

func plainly(m *monitor.Monitor) *plain {
	p := &plain{m: m, secure: slices.Repeat([]int{nobody}, m.Config().Secure), insecure: slices.Repeat([]int{nobody}, m.Config().Insecure), all: map[int]*tenant{}}
	p.insecure[0] = self
	return p
}

// clone: another one, over a clone of the machine.
func (p *plain) clone() *plain {
	c := &plain{m: p.m.Clone(), secure: slices.Clone(p.secure), insecure: slices.Clone(p.insecure), all: map[int]*tenant{}, loads: p.loads}
	for id, x := range p.all {
		c.all[id] = &tenant{x.space, x.shares, x.threads, maps.Clone(x.cut)}
	}
	return c
}

// had: the pages of one list that somebody has, rising.
func had(list []int, by int) []int {
	var pages []int
	for page, who := range list {
		if who == by {
			pages = append(pages, page)
		}
	}
	return pages
}

// pass: all pages that one has go to another.
func pass(list []int, from, to int) {
	for page, who := range list {
		if who == from {
			list[page] = to
		}
	}
}

func (p *plain) free() (int, int) {
	return len(had(p.secure, nobody)), len(had(p.insecure, nobody))
}

func (p *plain) load(i image.Image) (int, api.Errno) {
	if image.Check(i) != api.OK {
		return 0, api.ErrImage
	}
	secure, insecure := 2, 0
	for _, part := range i.Parts {
		if part.Kind == image.Share {
			insecure++
		} else {
			secure++
		}
	}
	pages, shares := had(p.secure, nobody), had(p.insecure, nobody)
	if len(pages) < secure || len(shares) < insecure {
		return 0, api.ErrFull
	}
	pages, shares = pages[:secure], shares[:insecure]
	x := &tenant{space: pages[0], shares: shares, cut: map[int]bool{}}
	left := pages[2:]
	for _, part := range i.Parts {
		if part.Kind == image.Share {
			continue
		}
		if part.Kind == image.Thread {
			x.threads = append(x.threads, left[0])
		}
		left = left[1:]
	}
	if !p.build(i, pages, shares) {
		p.end(x.space)
		return 0, api.ErrRefused
	}
	for _, page := range pages {
		p.secure[page] = p.loads
	}
	for _, page := range shares {
		p.insecure[page] = p.loads
	}
	p.all[p.loads] = x
	p.loads++
	return p.loads - 1, api.OK
}

// build: the steps of the plan, up to the first that is refused.
func (p *plain) build(i image.Image, pages, shares []int) bool {
	steps, _ := image.Plan(i, pages, shares, 0)
	for _, s := range steps {
		if s.Lay {
			for off := 0; off < 1024; off++ {
				p.m.Write(0, off, s.Words[off])
			}
		} else if code, _ := p.m.Do(s.Call, s.A, s.B, s.C, s.D, 0); code != api.CodeOK {
			return false
		}
	}
	return true
}

// end: stop, and remove: what the space owns, rising, and it.
func (p *plain) end(space int) {
	p.m.Do(19, uint32(space), 0, 0, 0, 0)
	e, _ := p.m.DB().Entry(space)
	if e.Type != entry.Space {
		return
	}
	var owned []int
	for page := range p.secure {
		if e, _ := p.m.DB().Entry(page); e.Type != entry.Free && e.Owner == space && page != space {
			owned = append(owned, page)
		}
	}
	for _, page := range append(owned, space) {
		p.m.Do(20, uint32(page), 0, 0, 0, 0)
	}
}

func (p *plain) drop(id int) api.Errno {
	x := p.all[id]
	if x == nil {
		return api.ErrUnknown
	}
	p.end(x.space)
	pass(p.secure, id, nobody)
	pass(p.insecure, id, nobody)
	delete(p.all, id)
	return api.OK
}

func (p *plain) grow(id int) api.Errno {
	x, pages := p.all[id], had(p.secure, nobody)
	if x == nil {
		return api.ErrUnknown
	}
	if len(pages) == 0 {
		return api.ErrFull
	}
	if code, _ := p.m.Do(15, uint32(x.space), uint32(pages[0]), 0, 0, 0); code != api.CodeOK {
		return api.ErrRefused
	}
	p.secure[pages[0]] = id
	return api.OK
}

func (p *plain) peek(id, share, off int) (uint32, api.Errno) {
	x := p.all[id]
	switch {
	case x == nil || share < 0 || share >= len(x.shares):
		return 0, api.ErrUnknown
	case off < 0 || off > 1023:
		return 0, api.ErrRange
	}
	w, _ := p.m.Read(x.shares[share], off)
	return w, api.OK
}

func (p *plain) poke(id, share, off int, v uint32) api.Errno {
	x := p.all[id]
	switch {
	case x == nil || share < 0 || share >= len(x.shares):
		return api.ErrUnknown
	case off < 0 || off > 1023:
		return api.ErrRange
	}
	p.m.Write(x.shares[share], off, v)
	return api.OK
}

func (p *plain) run(j host.Job, fuel int) told {
	x := p.all[j.Id]
	switch {
	case x == nil || j.Thread < 0 || j.Thread >= len(x.threads):
		return told{e: api.ErrUnknown}
	case x.cut[j.Thread]:
		return told{e: api.ErrBusy}
	}
	code, value := p.m.Do(17, uint32(x.threads[j.Thread]), j.A, j.B, j.C, fuel)
	x.cut[j.Thread] = code == api.CodeInterrupted
	return told{code, value, api.OK}
}

func (p *plain) goOn(id, thread, fuel int) told {
	x := p.all[id]
	switch {
	case x == nil || thread < 0 || thread >= len(x.threads):
		return told{e: api.ErrUnknown}
	case !x.cut[thread]:
		return told{e: api.ErrState}
	}
	code, value := p.m.Do(18, uint32(x.threads[thread]), 0, 0, 0, fuel)
	x.cut[thread] = code == api.CodeInterrupted
	return told{code, value, api.OK}
}

func (p *plain) turns(jobs []host.Job, fuel, most int) ([]host.Done, api.Errno) {
	if most < 1 || most > 4096 {
		return nil, api.ErrArg
	}
	if len(jobs) > 256 {
		return nil, api.ErrLong
	}
	done := make([]host.Done, len(jobs))
	ended := make([]bool, len(jobs))
	for round := 1; slices.Contains(ended, false); round++ {
		for k, j := range jobs {
			if ended[k] {
				continue
			}
			var is told
			if round == 1 {
				is = p.run(j, fuel)
			} else {
				is = p.goOn(j.Id, j.Thread, fuel)
			}
			if is.e != api.OK {
				done[k], ended[k] = host.Done{Err: is.e}, true
				continue
			}
			done[k] = host.Done{Code: is.code, Value: is.value, Turns: round}
			ended[k] = is.code != api.CodeInterrupted || round == most
		}
	}
	return done, api.OK
}
