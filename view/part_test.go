package view_test

import (
	"fmt"
	"slices"
	"strings"
	"testing"

	"warden/api"
	"warden/view"
)

// parted: both ways, the two part first there.
func parted(t *testing.T, a, b view.View, want string) {
	t.Helper()
	for _, pair := range [][2]view.View{{a, b}, {b, a}} {
		if got := view.Part(pair[0], pair[1]); got != want {
			t.Errorf("P25.3: Part: %q; want %q", got, want)
		}
		if view.Same(pair[0], pair[1]) != (want == "") {
			t.Errorf("P25.3: Same: %v, where Part is %q", want != "", want)
		}
	}
}

// small: a view that is no machine's, of lists of any lengths.
func small() view.View {
	return view.View{
		Births:    -3,
		Registers: [15]uint32{1, 2, 3},
		Insecure:  [][]uint32{{1, 2, 3}, nil, slices.Repeat([]uint32{7}, 3000)},
		Pages:     []view.Seen{{Entry: [2]uint32{5, 6}, Words: []uint32{9}}, {Hidden: true, Words: []uint32{1, 2}}, {}, {Words: slices.Repeat([]uint32{8}, 2048)}},
	}
}

func TestPartOfAnyViews(t *testing.T) {
	for _, x := range []struct {
		change func(v *view.View)
		want   string
	}{
		{func(v *view.View) {}, ""},
		{func(v *view.View) { v.Births++ }, "births"},
		{func(v *view.View) { v.Births = 1<<32 - 3 }, "births"},
		{func(v *view.View) { v.Registers[0]++ }, "register 0"},
		{func(v *view.View) { v.Registers[14] = 1 << 31 }, "register 14"},
		{func(v *view.View) { v.Insecure = nil }, "insecure"},
		{func(v *view.View) { v.Insecure = append(v.Insecure, nil) }, "insecure"},
		{func(v *view.View) { v.Insecure = v.Insecure[:2] }, "insecure"},
		{func(v *view.View) { v.Insecure[0] = []uint32{1, 2} }, "insecure 0"},
		{func(v *view.View) { v.Insecure[0] = []uint32{1, 2, 3, 0} }, "insecure 0"},
		{func(v *view.View) { v.Insecure[0][2] = 4 }, "insecure 0 word 2"},
		{func(v *view.View) { v.Insecure[0][0] = 4 }, "insecure 0 word 0"},
		{func(v *view.View) { v.Insecure[1] = []uint32{} }, ""},
		{func(v *view.View) { v.Insecure[1] = []uint32{0} }, "insecure 1"},
		{func(v *view.View) { v.Insecure[2][1023] = 8 }, "insecure 2 word 1023"},
		{func(v *view.View) { v.Insecure[2][1024] = 8 }, "insecure 2 word 1024"},
		{func(v *view.View) { v.Insecure[2][2999] = 8 }, "insecure 2 word 2999"},
		{func(v *view.View) { v.Pages = nil }, "pages"},
		{func(v *view.View) { v.Pages = append(v.Pages, view.Seen{}) }, "pages"},
		{func(v *view.View) { v.Pages[0].Entry[0]++ }, "page 0 entry"},
		{func(v *view.View) { v.Pages[0].Entry[1]++ }, "page 0 entry"},
		{func(v *view.View) { v.Pages[1].Hidden = false }, "page 1 hidden"},
		{func(v *view.View) { v.Pages[2].Hidden = true }, "page 2 hidden"},
		{func(v *view.View) { v.Pages[1].Words = v.Pages[1].Words[:1] }, "page 1"},
		{func(v *view.View) { v.Pages[1].Words = nil }, "page 1"},
		{func(v *view.View) { v.Pages[1].Words[1]++ }, "page 1 word 1"},
		{func(v *view.View) { v.Pages[2].Words = []uint32{} }, ""},
		{func(v *view.View) { v.Pages[3].Words[2047]++ }, "page 3 word 2047"},
		{func(v *view.View) { v.Pages[3].Words = v.Pages[3].Words[:1024] }, "page 3"},
	} {
		other := small()
		x.change(&other)
		parted(t, small(), other, x.want)
	}
	parted(t, view.View{}, view.View{Insecure: [][]uint32{}, Pages: []view.Seen{}}, "")
}

// What comes ahead in the chapter's order is told, whatever parts behind it.
func TestPartTellsTheFirst(t *testing.T) {
	changes := []struct {
		change func(v *view.View)
		want   string
	}{
		{func(v *view.View) { v.Pages[3].Words[5]++ }, "page 3 word 5"},
		{func(v *view.View) { v.Pages[3].Words[4]++ }, "page 3 word 4"},
		{func(v *view.View) { v.Pages[3].Words = v.Pages[3].Words[1:] }, "page 3"},
		{func(v *view.View) { v.Pages[3].Hidden = true }, "page 3 hidden"},
		{func(v *view.View) { v.Pages[3].Entry[1]++ }, "page 3 entry"},
		{func(v *view.View) { v.Pages[1].Words[1]++ }, "page 1 word 1"},
		{func(v *view.View) { v.Pages[0].Words[0]++ }, "page 0 word 0"},
		{func(v *view.View) { v.Pages = append(v.Pages, view.Seen{}) }, "pages"},
		{func(v *view.View) { v.Insecure[2][1500]++ }, "insecure 2 word 1500"},
		{func(v *view.View) { v.Insecure[2][1030]++ }, "insecure 2 word 1030"},
		{func(v *view.View) { v.Insecure[2] = v.Insecure[2][:2999] }, "insecure 2"},
		{func(v *view.View) { v.Insecure[0][1]++ }, "insecure 0 word 1"},
		{func(v *view.View) { v.Insecure = v.Insecure[:1] }, "insecure"},
		{func(v *view.View) { v.Registers[14]++ }, "register 14"},
		{func(v *view.View) { v.Registers[10]++ }, "register 10"},
		{func(v *view.View) { v.Registers[9]++ }, "register 9"},
		{func(v *view.View) { v.Births++ }, "births"},
	}
	other := small()
	for _, x := range changes {
		x.change(&other)
		parted(t, small(), other, x.want)
	}
}

// Of a machine's views: any number that is told is another one; each is told where it stands.
func TestPartOfEveryNumber(t *testing.T) {
	w := town(t)
	a := view.Of(w.m, 1)
	for r := range 15 {
		b := view.Of(w.m, 1)
		b.Registers[r] ^= 1 << r
		parted(t, a, b, fmt.Sprintf("register %d", r))
	}
	b := view.Of(w.m, 1)
	for page := range 6 {
		for off := 0; off < 1024; off += 31 {
			b.Insecure[page][off] ^= 1 << (off % 32)
			parted(t, a, b, fmt.Sprintf("insecure %d word %d", page, off))
			b.Insecure[page][off] ^= 1 << (off % 32)
		}
	}
	for page := range 24 {
		for off := 0; off < len(b.Pages[page].Words); off += 93 {
			b.Pages[page].Words[off] ^= 1 << (off % 32)
			parted(t, a, b, fmt.Sprintf("page %d word %d", page, off))
			b.Pages[page].Words[off] ^= 1 << (off % 32)
		}
	}
	parted(t, a, b, "")
}

func TestAlike(t *testing.T) {
	some := func() view.Release {
		return view.Release{Code: 3, Value: 4, Pages: small().Insecure, Metas: small().Pages}
	}
	for k, x := range []struct {
		change func(r *view.Release)
		want   bool
	}{
		{func(r *view.Release) {}, true},
		{func(r *view.Release) { r.Code++ }, false},
		{func(r *view.Release) { r.Value++ }, false},
		{func(r *view.Release) { r.Code, r.Value = 4, 3 }, false},
		{func(r *view.Release) { r.Pages = nil }, false},
		{func(r *view.Release) { r.Pages = r.Pages[:2] }, false},
		{func(r *view.Release) { r.Pages = append(r.Pages, nil) }, false},
		{func(r *view.Release) { r.Pages[0], r.Pages[1] = r.Pages[1], r.Pages[0] }, false},
		{func(r *view.Release) { r.Pages[1] = []uint32{} }, true},
		{func(r *view.Release) { r.Pages[0] = r.Pages[0][1:] }, false},
		{func(r *view.Release) { r.Pages[2][2999]++ }, false},
		{func(r *view.Release) { r.Metas = nil }, false},
		{func(r *view.Release) { r.Metas = append(r.Metas, view.Seen{}) }, false},
		{func(r *view.Release) { r.Metas[0].Entry[0]++ }, false},
		{func(r *view.Release) { r.Metas[2].Entry[1]++ }, false},
		{func(r *view.Release) { r.Metas[2].Hidden = true }, false},
		{func(r *view.Release) { r.Metas[2].Words = []uint32{} }, true},
		{func(r *view.Release) { r.Metas[3].Words[2047]++ }, false},
		{func(r *view.Release) { r.Metas[3].Words = r.Metas[3].Words[:2047] }, false},
	} {
		other := some()
		x.change(&other)
		if view.Alike(some(), other) != x.want || view.Alike(other, some()) != x.want {
			t.Errorf("P25.5: Alike of %d: %v", k, !x.want)
		}
	}
	if !view.Alike(view.Release{}, view.Release{Pages: [][]uint32{}, Metas: []view.Seen{}}) {
		t.Error("P25.5: nil and empty are not alike")
	}
}

// What is asked about is not changed, the room behind its lists too; parts are texts of the words that the chapter has.
func TestPartChangesNothing(t *testing.T) {
	a, b := small(), small()
	room := append(a.Pages[3].Words, 1, 2, 3)
	a.Pages[3].Words = room[:2048]
	view.Part(a, b)
	view.Same(a, b)
	view.Alike(view.Release{Pages: a.Insecure, Metas: a.Pages}, view.Release{Pages: b.Insecure, Metas: b.Pages})
	if plainPart(a, small()) != "" || plainPart(b, small()) != "" || !slices.Equal(room[2048:], []uint32{1, 2, 3}) {
		t.Error("P25.9: a view is changed")
	}
	b.Births = 0
	if part := view.Part(a, b); part != strings.TrimSpace(part) || part != "births" {
		t.Errorf("P25.3: %q", part)
	}
	if view.Alike(view.Release{Code: api.CodeFault}, view.Release{Value: uint32(api.CodeFault)}) {
		t.Error("P25.5: a code and a value are alike")
	}
}
