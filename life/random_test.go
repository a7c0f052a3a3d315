package life_test

import (
	"math/rand"
	"slices"
	"testing"

	"warden/api"
	"warden/build"
	"warden/entry"
	"warden/space"
	"warden/valid"
	"warden/walk"
)

// script: calls by chance.
type script struct {
	world
	*rand.Rand
}

// page: mostly one of that type.
func (s script) page(t entry.Type) uint32 {
	if s.Intn(25) == 0 {
		return []uint32{uint32(s.d.Pages()), 0xffffffff, 0x80000000, s.Uint32()}[s.Intn(4)]
	}
	from := s.Intn(s.d.Pages())
	for i := range s.d.Pages() {
		page := (from + i) % s.d.Pages()
		if e, _ := s.d.Entry(page); e.Type == t && s.Intn(12) > 0 {
			return uint32(page)
		}
	}
	return uint32(from)
}

// number: a page as the calls of layer 12 are told it.
func (s script) number(t entry.Type) int { return int(s.page(t)) }

func (s script) kind() entry.Type { return entry.Type(s.Intn(int(entry.Types))) }

func (s script) call() call {
	switch s.Intn(8) {
	case 0, 1, 2:
		return of("Spare", s.page(entry.Space), s.page(entry.Free))
	case 3:
		return of("Final", s.page(entry.Space))
	case 4:
		return of("Stop", s.page(entry.Space))
	}
	return of("Remove", s.page(s.kind()))
}

// digest: words at a space's digest: those of one, or none's.
func (s script) digest(page int) {
	n := uint64(s.Intn(40))
	words := saved(firstState(), n, slices.Repeat([]uint32{s.Uint32()}, int(n%16))...)
	if s.Intn(4) == 0 {
		words[s.Intn(26)] ^= s.Uint32()
	}
	s.lay(page, entry.SpaceDigest, words...)
}

// below: a call of layer 12's, or a word that somebody writes. It may be refused.
func (s script) below() {
	switch s.Intn(12) {
	case 0, 1:
		page := s.number(entry.Free)
		if s.d.TakeSpace(page, s.number(entry.Free)) == api.OK {
			s.digest(page)
		}
	case 2, 3, 4:
		s.d.Take(s.number(entry.Free), s.kind(), s.number(entry.Space))
	case 5:
		s.d.Turn(s.number(s.kind()), s.kind())
	case 6:
		s.d.Give(s.number(s.kind()))
	case 7:
		s.d.SetState(s.number(entry.Space), entry.State(s.Intn(int(entry.States))))
	case 8:
		s.d.SetEntered(s.number(entry.Thread), s.Intn(2) == 0)
	case 9:
		s.digest(s.number(entry.Space))
	default:
		s.lay(s.number(s.kind()), s.Intn(1024), s.Uint32())
	}
}

// spaces: all that there are.
func (s script) spaces() (list []int) {
	for page := range s.d.Pages() {
		if e, _ := s.d.Entry(page); e.Type == entry.Space {
			list = append(list, page)
		}
	}
	return list
}

// Over all databases that the calls of layers 12 and 18 leave, with any words in the pages, all is as it is promised; and every space can be reclaimed.
func TestScriptsOverAnyWords(t *testing.T) {
	seen := map[answer]int{}
	for seed := range int64(60) {
		r := rand.New(rand.NewSource(1800 + seed))
		s := script{booted(t, 2+r.Intn(22), 1+r.Intn(2)), r}
		s.seen = seen
		for range 200 {
			if s.Intn(3) == 0 {
				s.do(s.call())
			} else {
				s.below()
			}
		}
		p := told(s.d)
		for page := -1; page <= s.d.Pages(); page++ {
			s.plans(page, p.plan(page)...)
		}
		for _, page := range s.spaces() {
			s.reclaim(page, r)
		}
		if s.d.Free() != s.d.Pages() {
			t.Fatalf("W5: %d of %d pages are free when all spaces are gone", s.d.Free(), s.d.Pages())
		}
	}
	allSeen(t, seen)
}

// allSeen: each call has answered each of its codes.
func allSeen(t *testing.T, seen map[answer]int) {
	t.Helper()
	for name, codes := range map[string][]api.Code{
		"Spare":  {api.CodeOK, api.CodePage, api.CodeSpace, api.CodeStopped, api.CodeUsed},
		"Final":  {api.CodeOK, api.CodePage, api.CodeSpace, api.CodeFinal},
		"Stop":   {api.CodeOK, api.CodePage, api.CodeSpace},
		"Remove": {api.CodeOK, api.CodePage, api.CodeFree, api.CodeNotStopped, api.CodeHeld},
	} {
		for _, code := range codes {
			if seen[answer{name, code}] == 0 {
				t.Errorf("%s never answers %d in this test", name, code)
			}
		}
	}
}

// built: a call that builds, by chance; what it takes is told as words.
func (s script) built(lists map[uint32][]uint32) {
	at, page := s.page(entry.Space), s.page(entry.Free)
	mapping := uint32(s.Intn(2))<<22 | uint32(s.Intn(6))<<12 | uint32(s.Intn(4))*2 | 1
	switch s.Intn(8) {
	case 0, 1:
		if build.Space(s.d, page, s.page(entry.Free)) == api.CodeOK {
			lists[page] = nil
		}
	case 2:
		if build.Thread(s.d, at, page, mapping) == api.CodeOK {
			lists[at] = append(lists[at], 1, mapping)
		}
	case 3, 4:
		if build.Table(s.d, at, page, mapping>>22) == api.CodeOK {
			lists[at] = append(lists[at], 2, mapping>>22)
		}
	case 5:
		if build.Share(s.d, at, mapping, 0) == api.CodeOK {
			lists[at] = append(lists[at], 4, mapping)
		}
	default:
		s.d.Memory().Write(insecure(0), s.Intn(1024), s.Uint32())
		if build.Data(s.d, at, page, mapping, 0) == api.CodeOK {
			lists[at] = append(append(lists[at], 3, mapping), told(s.d).insecure[0]...)
		}
	}
}

// mapped: of each space that isn't stopped what is mapped.
func (s script) mapped() (all [][]walk.At) {
	for _, page := range s.spaces() {
		if e, _ := s.d.Entry(page); e.State != entry.Stopped {
			list, err := space.List(s.d, page)
			s.ok("List", err)
			all = append(all, list)
		}
	}
	return all
}

// removed: a Remove by chance: what it takes was of a stopped space, or spare, and mapped nowhere.
func (s script) removed() {
	s.Helper()
	page := s.page(s.kind())
	p, mapped := told(s.d), s.mapped()
	if s.do(of("Remove", page)) != api.CodeOK {
		return
	}
	e := p.entry(page)
	if e.Type != entry.Spare && p.entries[e.Owner].State != entry.Stopped {
		s.Fatalf("P18.7: page %d, which is %+v, is removed", page, e)
	}
	if !slices.EqualFunc(mapped, s.mapped(), slices.Equal) {
		s.Fatalf("P18.7: with page %d goes what a space maps", page)
	}
	for _, list := range s.mapped() {
		for _, m := range list {
			if m.Map.Frame == secure(int(page)) {
				s.Fatalf("P18.7: page %d is removed, and mapped at %#x", page, m.VA)
			}
		}
	}
}

// finals: a Final by chance: the measurement is that of what was taken for the space.
func (s script) finals(lists map[uint32][]uint32) {
	s.Helper()
	page := s.page(entry.Space)
	if s.do(of("Final", page)) == api.CodeOK {
		sum := librarySum(lists[page]...)
		s.wordsAre("W4", int(page), entry.SpaceMeasure, sum[:]...)
	}
}

// Over what the calls that build leave: a valid state stays valid, and nothing that is mapped is ever given back.
func TestScriptsOverBuiltSpaces(t *testing.T) {
	seen := map[answer]int{}
	for seed := range int64(30) {
		r := rand.New(rand.NewSource(18000 + seed))
		s := script{booted(t, 4+r.Intn(20), 1), r}
		s.seen = seen
		lists := map[uint32][]uint32{}
		for range 250 {
			switch s.Intn(10) {
			case 0:
				s.finals(lists)
			case 1, 2:
				s.removed()
			case 3:
				if c := s.call(); c.name != "Final" {
					s.do(c)
				}
			default:
				s.built(lists)
			}
			if clause, page := valid.Broken(s.d); clause != 0 {
				t.Fatalf("W1: %s is not so at page %d", valid.Says(clause), page)
			}
		}
		for _, page := range s.spaces() {
			s.reclaim(page, r)
		}
	}
	allSeen(t, seen)
}
