package walk_test

import (
	"testing"

	"warden/api"
	"warden/mem"
	"warden/walk"
)

// The chapter's sentences in plain sums, beside the package: descriptors are counted up into tables of all there are, addresses are put together out of their parts by multiplying.

// firsts: every first-level descriptor and its page.
func firsts() map[uint32]int {
	all := map[uint32]int{}
	for page := range 64 {
		all[256*uint32(page)+1] = page
	}
	return all
}

// seconds: every second-level descriptor and its map.
func seconds() map[uint32]walk.Map {
	all := map[uint32]walk.Map{}
	for page := range 64 {
		w := 256*uint32(page) + 1
		all[w] = walk.Map{Frame: ins(page)}
		all[w+4] = walk.Map{Frame: ins(page), Write: true}
		all[w+2] = walk.Map{Frame: sec(page)}
		all[w+2+4] = walk.Map{Frame: sec(page), Write: true}
		all[w+2+8] = walk.Map{Frame: sec(page), Exec: true}
		all[w+2+4+8] = walk.Map{Frame: sec(page), Write: true, Exec: true}
	}
	return all
}

// plain: what is asked of a memory, looked up by Peek.
type plain struct {
	m       *mem.Memory
	firsts  map[uint32]int
	seconds map[uint32]walk.Map
}

func over(m *mem.Memory) plain { return plain{m: m, firsts: firsts(), seconds: seconds()} }

func (p plain) has(f api.Frame) bool {
	if f.Secure {
		return 0 <= f.Page && f.Page < p.m.Secure()
	}
	return 0 <= f.Page && f.Page < p.m.Insecure()
}

// walk: Walk's answer, and how many words it touches.
func (p plain) walk(l1 int, va uint32) (walk.Map, api.Errno, int64) {
	if va > 0x3fffffff || va%4 != 0 {
		return walk.Map{}, api.ErrVA, 0
	}
	if !p.has(sec(l1)) {
		return walk.Map{}, api.ErrPage, 0
	}
	w := p.m.Peek(sec(l1), int(va/(4096*1024)))
	if w == 0 {
		return walk.Map{}, api.ErrNone, 1
	}
	l2, is := p.firsts[w]
	if !is || !p.has(sec(l2)) {
		return walk.Map{}, api.ErrTable, 1
	}
	w = p.m.Peek(sec(l2), int(va/4096%1024))
	if w == 0 {
		return walk.Map{}, api.ErrNone, 2
	}
	to, is := p.seconds[w]
	if !is || !p.has(to.Frame) {
		return walk.Map{}, api.ErrTable, 2
	}
	return to, api.OK, 2
}

// translate: Translate's answer.
func (p plain) translate(l1 int, va uint32, a walk.Access) (api.Frame, int, api.Errno) {
	to, e, _ := p.walk(l1, va)
	if e != api.OK {
		return api.Frame{}, 0, e
	}
	if a != 0 && !(a == 1 && to.Write) && !(a == 2 && to.Exec) {
		return api.Frame{}, 0, api.ErrDeny
	}
	return to.Frame, int(va % 4096 / 4), api.OK
}

// list: List's answer of a page that is there, by a walk to every page's first address, and how many words it touches.
func (p plain) list(l1 int) ([]walk.At, int64) {
	var all []walk.At
	touched := int64(256)
	for i := range 256 {
		if l2, is := p.firsts[p.m.Peek(sec(l1), i)]; is && p.has(sec(l2)) {
			touched += 1024
		}
	}
	for page := range uint32(0x40000) {
		if to, e, _ := p.walk(l1, page*4096); e == api.OK {
			all = append(all, walk.At{VA: page * 4096, Map: to})
		}
	}
	return all, touched
}

func sec(page int) api.Frame { return api.Frame{Secure: true, Page: page} }

func ins(page int) api.Frame { return api.Frame{Page: page} }

func memory(t *testing.T, secure, insecure int) *mem.Memory {
	t.Helper()
	m, e := mem.New(secure, insecure)
	if e != api.OK {
		t.Fatalf("mem.New(%d, %d): %d", secure, insecure, e)
	}
	return m
}

// lay: words at their offsets of a secure page.
func lay(m *mem.Memory, page int, words map[int]uint32) {
	for off, w := range words {
		m.Write(sec(page), off, w)
	}
}

// example4: the memory of the chapter's examples 4 and 5.
func example4(t *testing.T) *mem.Memory {
	t.Helper()
	m := memory(t, 8, 2)
	lay(m, 1, map[int]uint32{1: 0x201})
	lay(m, 2, map[int]uint32{3: 0x105})
	return m
}
