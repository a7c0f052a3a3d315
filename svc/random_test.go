package svc_test

import (
	"math/rand"
	"testing"

	"warden/api"
	"warden/build"
	"warden/entry"
	"warden/life"
	"warden/pagedb"
	"warden/regs"
)

// script: calls by chance.
type script struct {
	world
	*rand.Rand
}

// page: mostly one of that type.
func (s script) page(t entry.Type) uint32 {
	if s.Intn(25) == 0 {
		return []uint32{uint32(s.d.Pages()), 0xffffffff, 0x80000000, s.Uint32()}[s.Intn(4)]
	}
	from := s.Intn(s.d.Pages())
	for i := range s.d.Pages() {
		page := (from + i) % s.d.Pages()
		if e, _ := s.d.Entry(page); e.Type == t && s.Intn(12) > 0 {
			return uint32(page)
		}
	}
	return uint32(from)
}

// owned: mostly a page of that type of the space of a thread.
func (s script) owned(t entry.Type, thread int) uint32 {
	of, _ := s.d.Entry(thread)
	page := s.page(t)
	for range 20 {
		if e, _ := s.d.Entry(int(page)); e.Owner == of.Owner {
			break
		}
		page = s.page(t)
	}
	return page
}

// index: mostly one of few, so that calls meet.
func (s script) index() uint32 {
	return []uint32{0, 0, 0, 0, 1, 1, 1, 2, 255, 256, s.Uint32() % 256, s.Uint32()}[s.Intn(12)]
}

func (s script) mapping() uint32 {
	if s.Intn(15) == 0 {
		return s.Uint32()
	}
	w := s.index()<<22 | uint32(s.Intn(8)>>s.Intn(4))<<12 | uint32(s.Intn(4))*2
	if s.Intn(20) > 0 {
		w |= 1
	}
	return w
}

// mapped: mostly the mapping word of a place that the enclave has mapped, and the page there.
func (s script) mapped(thread int) (page, mapping uint32) {
	p := told(s.d)
	of, runs := p.running(thread)
	if runs && s.Intn(6) > 0 {
		for range 200 {
			mapping = s.mapping()
			if place := of.place(mapping); place != nil && !noMapping(mapping) && place[0]%4 == 3 {
				page = place[0] / 256
				if s.Intn(3) > 0 {
					mapping = mapping&^6 | place[0]/4%4*2
				}
				return page, mapping
			}
		}
	}
	return s.owned(entry.Data, thread), s.mapping()
}

// anyFile: all registers, flags, addresses.
func (s script) anyFile() regs.File {
	f := regs.File{PC: s.Uint32(), Z: s.Intn(2) == 0, N: s.Intn(2) == 0, L: s.Intn(2) == 0}
	for i := range f.R {
		f.R[i] = s.Uint32()
	}
	return f
}

// call: of a thread, mostly; what was asked, and what was answered.
func (s script) call() (ask, result) {
	s.Helper()
	thread := int(s.page(entry.Thread))
	n, f := uint32(s.Intn(9)), s.anyFile()
	switch n {
	case api.SvcVerify:
		f.R[1] = s.mapping()&^0xfff | uint32(s.Intn(1024))<<2
	case api.SvcMap:
		f.R[1], f.R[2] = s.owned(entry.Spare, thread), s.mapping()
	case api.SvcUnmap:
		f.R[1], f.R[2] = s.mapped(thread)
	case api.SvcTable:
		f.R[1], f.R[2] = s.owned(entry.Spare, thread), s.index()
	}
	return ask{bootKey(), s.streams, thread, n, f}, s.do(thread, n, f)
}

// system: a call of the system's that builds, gives, ends or takes back, or a word that it writes; it may be refused.
func (s script) system() {
	at, page := s.page(entry.Space), s.page(entry.Free)
	switch s.Intn(16) {
	case 0:
		build.Space(s.d, page, s.page(entry.Free))
	case 1, 2:
		build.Thread(s.d, at, page, s.Uint32())
	case 3, 4, 5:
		build.Table(s.d, at, page, s.index())
	case 6, 7:
		build.Data(s.d, at, page, s.mapping(), s.Uint32()%2)
	case 8, 9:
		build.Share(s.d, at, s.mapping(), s.Uint32()%2)
	case 10, 11, 12:
		life.Spare(s.d, at, page)
	case 13:
		life.Final(s.d, at)
	case 14:
		if s.Intn(8) == 0 {
			life.Stop(s.d, at)
		}
		life.Remove(s.d, s.page(entry.Type(s.Intn(int(entry.Types)))))
	default:
		s.d.Memory().Write(insecure(0), s.Intn(1024), s.Uint32())
	}
}

// chance: streams of all lengths.
func chance(r *rand.Rand) [][]uint32 {
	streams := make([][]uint32, r.Intn(6))
	for i := range streams {
		for range r.Intn(5) {
			streams[i] = append(streams[i], r.Uint32())
		}
	}
	return streams
}

// mayChange: whether a call may change a word of a page that was e: of its space's draws, its tables, the page that it names.
func (a ask) mayChange(space, page, off int, e entry.Entry) bool {
	isTable := e.Type == entry.First || e.Type == entry.Second
	names := a.n >= api.SvcMap && a.n <= api.SvcTable && uint32(page) == a.file.R[1]
	draws := a.n == api.SvcRandom && page == space && off == entry.SpaceDraws
	return e.Type != entry.Free && e.Owner == space && (names || draws || isTable && a.n != api.SvcRandom)
}

// changedIn: a call has changed no entry and no word but of its own space, and there just what it may.
func (s script) changedIn(was *pagedb.DB, a ask) {
	s.Helper()
	thread, _ := was.Entry(a.thread)
	for page := range was.Pages() {
		old, _ := was.Entry(page)
		if now, _ := s.d.Entry(page); now != old && (old.Owner != thread.Owner || uint32(page) != a.file.R[1]) {
			s.Fatalf("P19.5: page %d was %+v and is %+v", page, old, now)
		}
		for off := range 1024 {
			changed := was.Memory().Peek(secure(page), off) != s.d.Memory().Peek(secure(page), off)
			if changed && !a.mayChange(thread.Owner, page, off, old) {
				s.Fatalf("P19.5: call %d changes the word %d of page %d, which was %+v", a.n, off, page, old)
			}
		}
	}
}

// Over what the system's calls leave a valid state stays valid, and a thread's calls change nothing but of its own space.
func TestScriptsOverBuiltSpaces(t *testing.T) {
	seen := map[answered]int{}
	for seed := range int64(40) {
		r := rand.New(rand.NewSource(1900 + seed))
		s := script{booted(t, 8+r.Intn(20), 2), r}
		s.seen, s.streams = seen, chance(r)
		for range 60 {
			s.system()
		}
		for range 250 {
			if s.Intn(3) == 0 {
				s.system()
				s.valid()
				continue
			}
			was := s.d.Clone()
			a, _ := s.call()
			s.valid()
			s.changedIn(was, a)
		}
	}
	w := world{T: t, seen: seen}
	w.allCallsSeen()
}
