package view_test

import (
	"fmt"
	"testing"

	"warden/api"
	"warden/entry"
	"warden/monitor"
	"warden/view"
)

// told: all that Of, Space and Released tell of a birth.
type told struct {
	v    view.View
	r    view.Release
	page int
}

func tells(m *monitor.Monitor, birth int) told {
	var x told
	x.v = view.Of(m, birth)
	x.r, _ = view.Released(m, birth, 1, 2)
	x.page, _ = view.Space(m, birth)
	return x
}

func (x told) like(o told) bool {
	return view.Same(x.v, o.v) && view.Alike(x.r, o.r) && x.page == o.page
}

// secret: is the word one of those that are that enclave's alone?
func secret(m *monitor.Monitor, birth, page, off int) bool {
	s := plainSeen(m.DB(), birth, page)
	return s.Hidden || page == plainSpace(m.DB(), birth) && off == entry.SpaceDraws
}

// Any word of a secure page that becomes another one is seen, but for the secrets; a word of an insecure page always.
func TestEveryWordIsSeenOrHidden(t *testing.T) {
	w := town(t)
	for birth := range 6 {
		was := tells(w.m, birth)
		for page := range 24 {
			for _, off := range []int{0, 1, 2, 3, 17, 18, 500, 1022, 1023} {
				v := peek(w.m.DB(), page, off)
				if off == 1 && entries(w.m.DB())[page].kind == spaceType {
					continue // then the enclaves are others
				}
				w.m.DB().Memory().Write(secure(page), off, v^1)
				hidden := secret(w.m, birth, page, off)
				is := view.Of(w.m, birth)
				want := ""
				if !hidden {
					want = fmt.Sprintf("page %d word %d", page, off)
				}
				if got := view.Part(was.v, is); got != want {
					t.Fatalf("P25.8: birth %d: the word %d of page %d is another one: %q; want %q", birth, off, page, got, want)
				}
				if hidden && !was.like(tells(w.m, birth)) {
					t.Fatalf("P25.8: birth %d lets out the word %d of page %d", birth, off, page)
				}
				w.m.DB().Memory().Write(secure(page), off, v)
			}
		}
		for page := range 6 {
			w.write(page, 77, 1)
			if got, want := view.Part(was.v, view.Of(w.m, birth)), fmt.Sprintf("insecure %d word 77", page); got != want {
				t.Errorf("P25.2: %q; want %q", got, want)
			}
			w.write(page, 77, 0)
		}
	}
}

// Neither the boot key nor any stream is seen.
func TestConfigurationIsHidden(t *testing.T) {
	w := town(t)
	c := w.m.Config()
	c.Seed[7]++
	c.Streams = [][]uint32{{1}, {2}, {3}, {4}, {5}, {6}, {7}}
	other, e := monitor.Over(c, w.m.DB().Clone(), w.m.Registers())
	if e != api.OK {
		t.Fatal(e)
	}
	for birth := -1; birth < 7; birth++ {
		if !tells(w.m, birth).like(tells(other, birth)) {
			t.Errorf("P25.2: birth %d: the configuration is seen: %q", birth, view.Part(view.Of(w.m, birth), view.Of(other, birth)))
		}
	}
}

// Whatever is planted, what is told is as it was, the sum of all secrets at once.
func TestPlantedIsTold(t *testing.T) {
	w := town(t)
	for birth := 1; birth < 5; birth++ {
		for seed := range uint32(10) {
			p, e := w.plant(birth, seed, []uint32{seed})
			if e != api.OK || !tells(w.m, birth).like(tells(p, birth)) {
				t.Errorf("P25.8: birth %d, seed %d: %d", birth, seed, e)
			}
			for other := -1; other < 6; other++ {
				// The other enclaves see no more of it than everybody does.
				if other != birth && view.Same(view.Of(w.m, other), view.Of(p, other)) {
					t.Errorf("P25.6: nothing is planted in birth %d", birth)
				}
			}
		}
	}
}

// What an enclave lets out itself is seen: the exit's value, what it stores in a shared page.
func TestLetOutIsSeen(t *testing.T) {
	w := town(t)
	before := tells(w.m, 4)
	w.does(api.CodeInterrupted, 40, api.CallResume, 17)
	after := tells(w.m, 4)
	if before.like(after) || view.Alike(before.r, after.r) || view.Same(before.v, after.v) {
		t.Error("P25.5: what it stores in the page that it shares is hidden")
	}
	if part := view.Part(before.v, after.v); part != "register 0" && part != "insecure 2 word 0" {
		t.Logf("first %q", part)
	}
	r, _ := view.Released(w.m, 4, api.CodeInterrupted, 0)
	other, _ := view.Released(w.m, 4, api.CodeInterrupted, 1)
	third, _ := view.Released(w.m, 4, api.CodeOK, 0)
	if view.Alike(r, other) || view.Alike(r, third) {
		t.Error("P25.5: the code or the value is hidden")
	}
}
