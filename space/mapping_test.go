package space_test

import (
	"math/rand"
	"testing"

	"warden/api"
	"warden/space"
)

func TestMappingExamples(t *testing.T) {
	for w, m := range map[uint32]space.Mapping{0x5003: {VA: 0x5000, Write: true}, 5: {Exec: true}} {
		given(t, m, w, api.OK)
		parsed(t, w, m, api.OK)
	}
	given(t, space.Mapping{VA: 0x5004}, 0, api.ErrVA)
	given(t, space.Mapping{VA: 0x40000000}, 0, api.ErrVA)
	for _, w := range []uint32{0x5002, 0, 0x5009, 0x40000001} {
		parsed(t, w, space.Mapping{}, api.ErrMapping)
	}
}

func given(t *testing.T, m space.Mapping, want uint32, wantE api.Errno) {
	t.Helper()
	if w, e := space.Word(m); w != want || e != wantE {
		t.Fatalf("P14.1: Word(%+v) = %#x, %d; want %#x, %d", m, w, e, want, wantE)
	}
}

func parsed(t *testing.T, w uint32, want space.Mapping, wantE api.Errno) {
	t.Helper()
	if m, e := space.Parse(w); m != want || e != wantE {
		t.Fatalf("P14.1: Parse(%#x) = %+v, %d; want %+v, %d", w, m, e, want, wantE)
	}
}

// mapping: the one that a word's last figure and its page say, whatever else stands there.
func mapping(page, figure uint32) space.Mapping {
	return space.Mapping{VA: page * 4096, Write: figure == 3 || figure == 7, Exec: figure == 5 || figure == 7}
}

// All there are: as many as there are pages of addresses, each with four figures.
func TestEveryMapping(t *testing.T) {
	for page := range uint32(1 << 18) {
		for figure := uint32(1); figure < 8; figure += 2 {
			given(t, mapping(page, figure), page*4096+figure, api.OK)
			parsed(t, page*4096+figure, mapping(page, figure), api.OK)
		}
	}
}

func TestNoMapping(t *testing.T) {
	r := rand.New(rand.NewSource(141))
	for n := range 200000 {
		m := mapping(r.Uint32()>>12, uint32(n%8))
		switch n % 3 {
		case 0:
			m.VA = 0x40000000 + r.Uint32()%0xc0000000
		case 1:
			m.VA |= 1 + r.Uint32()%4095
		case 2:
			m.VA |= 1 << r.Intn(12)
		}
		given(t, m, 0, api.ErrVA)
	}
	for _, va := range []uint32{0x40000000, 0x40001000, 0x7ffff000, 0x80000000, 0xc0000000, 0xfffff000, 0xffffffff, 1, 4, 0x800, 0xfff, 0x1001, 0x3ffff800, 0x3fffffff} {
		for figure := range uint32(8) {
			m := mapping(0, figure)
			m.VA = va
			given(t, m, 0, api.ErrVA)
		}
	}
}

// Words near those of mappings, all of one page, and some of everywhere.
func TestWordsOfNoMapping(t *testing.T) {
	look := func(w uint32) {
		t.Helper()
		want, wantE := space.Mapping{}, api.ErrMapping
		if low := w % 4096; w < 0x40000000 && low < 8 && low%2 == 1 {
			want, wantE = mapping(w/4096, low), api.OK
		}
		parsed(t, w, want, wantE)
	}
	for low := range uint32(1 << 14) {
		look(low)
		look(0x3fffe000 + low)
		look(0x7fffe000 + low)
		look(-low)
	}
	r := rand.New(rand.NewSource(142))
	for range 100000 {
		near := r.Uint32()>>2&^0xfff | r.Uint32()%8
		look(near)
		look(near ^ 1<<r.Intn(32))
		look(r.Uint32())
	}
}
