package build_test

import (
	"math/rand"
	"testing"

	"warden/api"
	"warden/entry"
)

// script: calls by chance, over a machine that grows and shrinks.
type script struct {
	world
	*rand.Rand
}

// page: mostly the number of one that there is.
func (s script) page(pages int) uint32 {
	if s.Intn(25) == 0 {
		return []uint32{uint32(pages), 0xffffffff, 0x80000000, s.Uint32()}[s.Intn(4)]
	}
	return uint32(s.Intn(pages))
}

// secure: mostly a page of that type.
func (s script) secure(t entry.Type) uint32 {
	from := s.page(s.d.Pages())
	if s.Intn(12) == 0 {
		return from
	}
	for i := range uint32(s.d.Pages()) {
		page := (from%64 + i) % uint32(s.d.Pages())
		if e := s.p.entries[page]; e.Type == t {
			return page
		}
	}
	return from
}

func (s script) shared() uint32 { return s.page(s.d.Memory().Insecure()) }

// index: mostly one of few, so that calls meet.
func (s script) index() uint32 {
	return []uint32{0, 0, 0, 1, 1, 2, 255, 256, s.Uint32() % 256, s.Uint32()}[s.Intn(10)]
}

func (s script) mapping() uint32 {
	if s.Intn(12) == 0 {
		return s.Uint32()
	}
	w := s.index()<<22 | uint32(s.Intn(1024)>>s.Intn(11))<<12 | uint32(s.Intn(4))*2
	if s.Intn(20) > 0 {
		w |= 1
	}
	return w
}

func (s script) call() call {
	switch s.Intn(9) {
	case 0:
		return of("Space", s.secure(entry.Free), s.secure(entry.Free))
	case 1, 2:
		return of("Thread", s.secure(entry.Space), s.secure(entry.Free), s.Uint32())
	case 3, 4:
		return of("Table", s.secure(entry.Space), s.secure(entry.Free), s.index())
	case 5, 6:
		return of("Data", s.secure(entry.Space), s.secure(entry.Free), s.mapping(), s.shared())
	}
	return of("Share", s.secure(entry.Space), s.mapping(), s.shared())
}

// live: what the layers above and the system itself do meanwhile.
func (s script) live() {
	page := s.secure(entry.Space)
	if s.p.noPage(page) || s.p.entries[page].Type != entry.Space {
		return
	}
	switch s.Intn(6) {
	case 0:
		if s.p.entries[page].State == entry.Init {
			s.final(int(page))
		}
	case 1:
		s.setState(int(page), entry.Stopped)
	case 2:
		s.drop(int(page))
	default:
		s.write(s.Intn(s.d.Memory().Insecure()), s.Intn(1024), s.Uint32())
	}
}

// lists: of each space that is being built the measurement is that of what was taken for it.
func (s script) lists() {
	s.Helper()
	for page, e := range s.p.entries {
		if e.Type == entry.Space && e.State == entry.Init {
			s.measures(page, s.p.measured[uint32(page)]...)
		}
	}
}

func TestScripts(t *testing.T) {
	seen := map[answer]int{}
	for seed := range int64(40) {
		r := rand.New(rand.NewSource(1700 + seed))
		s := script{booted(t, 3+r.Intn(30), 1+r.Intn(4)), r}
		s.seen = seen
		for range 250 {
			s.do(s.call())
			if s.Intn(8) == 0 {
				s.live()
			}
		}
		s.lists()
	}
	for name, codes := range map[string][]api.Code{
		"Space":  {api.CodeOK, api.CodePage, api.CodeArg, api.CodeUsed},
		"Thread": {api.CodeOK, api.CodePage, api.CodeSpace, api.CodeFinal, api.CodeUsed},
		"Table":  {api.CodeOK, api.CodePage, api.CodeSpace, api.CodeFinal, api.CodeArg, api.CodeUsed, api.CodeAddress},
		"Data":   {api.CodeOK, api.CodePage, api.CodeSpace, api.CodeFinal, api.CodeMapping, api.CodeInsecure, api.CodeUsed, api.CodeTable, api.CodeAddress},
		"Share":  {api.CodeOK, api.CodePage, api.CodeSpace, api.CodeFinal, api.CodeMapping, api.CodeInsecure, api.CodeTable, api.CodeAddress},
	} {
		for _, code := range codes {
			if seen[answer{name, code}] == 0 {
				t.Errorf("%s never answers %d in this test", name, code)
			}
		}
	}
}
