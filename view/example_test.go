package view_test

import (
	"slices"
	"strings"
	"testing"

	"warden/api"
	"warden/entry"
	"warden/view"
)

func TestExampleOne(t *testing.T) {
	w := chapter(t, true)
	v := view.Of(w.m, 0)
	if len(v.Pages) != 8 || len(v.Insecure) != 2 || v.Births != 1 || v.Registers != w.m.Registers() {
		t.Fatalf("P25.2: %d pages, %d insecure ones, %d births", len(v.Pages), len(v.Insecure), v.Births)
	}
	for _, page := range []int{3, 4} {
		if s := v.Pages[page]; !s.Hidden || len(s.Words) != 0 {
			t.Errorf("P25.1: page %d: %v, %d words", page, s.Hidden, len(s.Words))
		}
	}
	var measured [8]uint32
	copy(measured[:], v.Pages[0].Words[3:])
	if measured == [8]uint32{} || measured[5] != w.m.DB().Memory().Peek(secure(0), 8) || v.Pages[0].Words[2] != 0 {
		t.Errorf("P25.1: the space's page: %#x, %d", measured, v.Pages[0].Words[2])
	}
	for _, page := range []int{1, 2} {
		if s := v.Pages[page]; s.Hidden || !slices.Equal(s.Words, content(w.m.DB(), secure(page))) {
			t.Errorf("P25.1: page %d isn't seen whole", page)
		}
	}
	if s := v.Pages[5]; s.Entry != [2]uint32{} || s.Hidden || !slices.Equal(s.Words, make([]uint32, 1024)) {
		t.Errorf("P25.1: the free page 5: %v, %v, %d words", s.Entry, s.Hidden, len(s.Words))
	}
	all := view.Of(w.m, 1)
	if slices.ContainsFunc(all.Pages, func(s view.Seen) bool { return s.Hidden || len(s.Words) != 1024 }) || all.Pages[3].Words[0] != 5 {
		t.Error("P25.2: of an enclave that isn't there something is hidden")
	}
}

func TestExampleTwo(t *testing.T) {
	w := chapter(t, false)
	for birth, want := range map[int]api.Errno{0: api.OK, 1: api.ErrNone, -1: api.ErrNone} {
		if page, e := view.Space(w.m, birth); page != 0 || e != want {
			t.Errorf("P25.4: Space(%d): %d, %d; want 0, %d", birth, page, e, want)
		}
	}
}

func TestExampleThree(t *testing.T) {
	w := chapter(t, false)
	p, e := view.Plant(w.m, 0, 0, []uint32{7})
	if e != api.OK {
		t.Fatalf("P25.6: %d", e)
	}
	// The first draw is the space's page's, page 0 coming ahead of page 3: so the data page has the second one first.
	d := p.DB()
	if a, b := peek(d, 0, entry.SpaceDraws), peek(d, 3, 0); a != 0x42021%4097 || b != 0x04080601 {
		t.Errorf("P25.6: %#x, %#x", a, b)
	}
	if part := view.Part(view.Of(w.m, 0), view.Of(p, 0)); part != "" {
		t.Errorf("P25.7: %q", part)
	}
	if part := view.Part(view.Of(w.m, 1), view.Of(p, 1)); part != "page 0 word 2" {
		t.Errorf("P25.6: %q", part)
	}
	// The planted number of draws is the old one.
	w.m.DB().Memory().Write(secure(0), entry.SpaceDraws, 0x42021%4097)
	if part := view.Part(view.Of(w.m, 1), view.Of(p, 1)); part != "page 3 word 0" {
		t.Errorf("P25.6: %q", part)
	}
}

func TestExampleFour(t *testing.T) {
	w := chapter(t, false)
	w.write(1, 6, 66)
	r, e := view.Released(w.m, 0, api.CodeOK, 9)
	if e != api.OK || r.Code != 0 || r.Value != 9 || len(r.Pages) != 1 || r.Pages[0][6] != 66 || len(r.Metas) != 5 {
		t.Fatalf("P25.5: %d, %d, %d, %d pages, %d metas", e, r.Code, r.Value, len(r.Pages), len(r.Metas))
	}
	if part := plainSeenParts(r.Metas, view.Of(w.m, 0).Pages[:5]); len(part) > 0 {
		t.Errorf("P25.5: the metas are not as those pages are seen: %v", part)
	}
	r, e = view.Released(w.m, 1, api.CodeOK, 9)
	if e != api.ErrNone || r.Code != 0 || r.Value != 0 || r.Pages != nil || r.Metas != nil {
		t.Errorf("P25.5: of none: %+v, %d", r, e)
	}
	w.does(api.CodeOK, 0, api.CallStop, 0)
	r, e = view.Released(w.m, 0, api.CodeOK, 9)
	if e != api.OK || len(r.Pages) != 0 || len(r.Metas) != 5 || slices.ContainsFunc(r.Metas, func(s view.Seen) bool { return len(s.Words) > 0 }) {
		t.Errorf("P25.5: behind stop: %d, %d pages, %d metas", e, len(r.Pages), len(r.Metas))
	}
}

func TestExampleFive(t *testing.T) {
	w := chapter(t, false)
	a, b := view.Of(w.m, 0), view.Of(w.m, 0)
	b.Registers[3]++
	b.Insecure[0][7]++
	if part := view.Part(a, b); part != "register 3" || view.Same(a, b) {
		t.Errorf("P25.3: %q", part)
	}
	b.Registers[3]--
	if part := view.Part(a, b); !strings.HasPrefix(part, "insecure 0 word 7") {
		t.Errorf("P25.3: %q", part)
	}
}
