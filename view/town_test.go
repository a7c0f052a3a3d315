package view_test

import (
	"math"
	"slices"
	"testing"

	"warden/api"
	"warden/view"
)

// births: those that there may be, and numbers that are none's.
func births() []int {
	return []int{0, 1, 2, 3, 4, 5, 63, 64, -1, 1 << 31, math.MaxUint32, 1 << 32, 1<<32 + 1, math.MaxInt, math.MinInt, math.MinInt + 1}
}

func TestEveryBirth(t *testing.T) {
	w := town(t)
	for _, birth := range births() {
		w.held(birth)
	}
	for birth, want := range []int{-1, 9, 6, 12, 18, -1} {
		if page, e := view.Space(w.m, birth); page != max(want, 0) || (e == api.OK) != (want >= 0) {
			t.Errorf("P25.4: Space(%d): %d, %d; want %d", birth, page, e, want)
		}
	}
}

// What is hidden of each enclave: its data pages and its threads, whatever its state.
func TestHiddenPages(t *testing.T) {
	w := town(t)
	for birth, want := range [][]int{nil, {1, 2, 15, 20}, {8, 11}, {19, 21}, {16, 17}, nil} {
		var hidden []int
		for page, s := range view.Of(w.m, birth).Pages {
			if s.Hidden {
				hidden = append(hidden, page)
			}
			if s.Hidden == (len(s.Words) == 1024) {
				t.Errorf("P25.1: page %d: hidden %v, %d words", page, s.Hidden, len(s.Words))
			}
		}
		if !slices.Equal(hidden, want) {
			t.Errorf("P25.1: of birth %d the pages %v are hidden; want %v", birth, hidden, want)
		}
	}
}

// The draws of the enclave's own space stand there as 0, those of others as they are.
func TestDrawsOfOthers(t *testing.T) {
	w := town(t)
	for birth, home := range map[int]int{1: 9, 4: 18} {
		taken := peek(w.m.DB(), home, 2)
		if taken == 0 {
			t.Fatalf("birth %d has taken no draw", birth)
		}
		for other := -1; other < 6; other++ {
			want := taken
			if other == birth {
				want = 0
			}
			if got := view.Of(w.m, other).Pages[home].Words[2]; got != want {
				t.Errorf("P25.1: the draws of birth %d, seen by all but birth %d: %d; want %d", birth, other, got, want)
			}
		}
	}
}

// Each insecure page that may be written stands there once, by its number; one that may only be read does not.
func TestLetOut(t *testing.T) {
	w := town(t)
	for page := range 6 {
		w.write(page, 1000, uint32(page)+1)
	}
	for birth, want := range map[int]struct{ pages, metas []int }{
		1: {[]int{1, 4, 5}, []int{1, 2, 3, 4, 5, 9, 10, 15, 20}},
		2: {[]int{2}, []int{0, 6, 7, 8, 11, 23}},
		3: {nil, []int{12, 19, 21}},
		4: {[]int{2}, []int{13, 14, 16, 17, 18}},
	} {
		r, e := view.Released(w.m, birth, api.CodeFault, 3)
		if e != api.OK || r.Code != api.CodeFault || r.Value != 3 || len(r.Pages) != len(want.pages) || len(r.Metas) != len(want.metas) {
			t.Fatalf("P25.5: birth %d: %d, %d, %d, %d pages, %d metas", birth, e, r.Code, r.Value, len(r.Pages), len(r.Metas))
		}
		for k, page := range want.pages {
			if !slices.Equal(r.Pages[k], content(w.m.DB(), insecure(page))) || r.Pages[k][1000] != uint32(page)+1 {
				t.Errorf("P25.5: birth %d: what is let out at %d is not the insecure page %d", birth, k, page)
			}
		}
		for k, page := range want.metas {
			s := plainSeen(w.m.DB(), birth, page)
			if birth == 3 {
				s.Words = nil
			}
			if part := plainSeenParts(r.Metas[k:k+1], []view.Seen{s}); len(part) > 0 {
				t.Errorf("P25.5: birth %d: the meta of page %d: %v", birth, page, part)
			}
		}
	}
}

// The code and the value are those that are handed in, whatever they are, also those that no call answers.
func TestCodesAsHandedIn(t *testing.T) {
	w := town(t)
	for _, code := range []api.Code{0, 9, 10, 24, 25, math.MaxUint32} {
		for _, value := range []uint32{0, 1, math.MaxUint32} {
			for birth := 1; birth < 5; birth++ {
				w.heldReleased(birth, code, value)
			}
		}
	}
}

// A page that another enclave has taken by now is that one's alone.
func TestPagesChangeHands(t *testing.T) {
	w := town(t)
	w.does(api.CodeOK, 0, api.CallRemove, 21)
	if s := view.Of(w.m, 3).Pages[21]; s.Hidden || s.Entry != [2]uint32{} {
		t.Errorf("P25.1: a page that is free by now: %+v", s.Entry)
	}
	w.does(api.CodeOK, 0, api.CallData, 6, 21, 0x3fc0f005, 5)
	for birth, hidden := range []bool{false, false, true, false, false} {
		if view.Of(w.m, birth).Pages[21].Hidden != hidden {
			t.Errorf("P25.1: page 21 by all but birth %d: hidden %v", birth, !hidden)
		}
		w.held(birth)
	}
	// An enclave that has been removed is there no more, and hides nothing.
	w.does(api.CodeOK, 0, api.CallRemove, 19)
	w.does(api.CodeOK, 0, api.CallRemove, 12)
	w.does(api.CodeOK, 0, api.CallSpace, 12, 19)
	if page, e := view.Space(w.m, 5); page != 12 || e != api.OK {
		t.Errorf("P25.4: Space(5): %d, %d", page, e)
	}
	for birth := range 7 {
		w.held(birth)
	}
}

// A machine of the fewest pages, and one of the most.
func TestSmallAndGreat(t *testing.T) {
	for _, n := range []int{1, 2, 64} {
		w := booted(t, n, n)
		for birth := -1; birth < 2; birth++ {
			w.held(birth)
		}
		if n == 1 {
			continue
		}
		w.does(api.CodeOK, 0, api.CallSpace, uint32(n-1), uint32(n-2))
		for birth := -1; birth < 3; birth++ {
			w.held(birth)
		}
		w.plant(0, 5, nil)
		v := view.Of(w.m, 0)
		if len(v.Pages) != n || len(v.Insecure) != n || v.Births != 1 {
			t.Errorf("P25.2: %d pages, %d insecure ones, %d births; want %d", len(v.Pages), len(v.Insecure), v.Births, n)
		}
	}
}

// All the pages of an enclave that maps each insecure page, some to be written, some not.
func TestEverySharedPage(t *testing.T) {
	w := booted(t, 8, 64)
	w.does(api.CodeOK, 0, api.CallSpace, 7, 3)
	w.does(api.CodeOK, 0, api.CallTable, 7, 5, 9)
	for page := range uint32(64) {
		w.write(int(page), int(page), page+1)
		w.does(api.CodeOK, 0, api.CallShare, 7, 9<<22|(63-page)<<12|1|page&1<<1, page)
	}
	w.held(0)
	r, _ := view.Released(w.m, 0, 0, 0)
	if len(r.Pages) != 32 {
		t.Fatalf("P25.5: %d pages", len(r.Pages))
	}
	for k, words := range r.Pages {
		if words[2*k+1] != uint32(2*k+2) {
			t.Errorf("P25.5: at %d there is not the page %d", k, 2*k+1)
		}
	}
}
