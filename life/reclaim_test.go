package life_test

import (
	"math/rand"
	"testing"

	"warden/api"
	"warden/entry"
	"warden/life"
)

// reclaim: stops a space and removes its pages, by its plan, or in an order by chance, the space last: then these are free and zero, and all others as ahead of Stop.
func (w world) reclaim(space int, r *rand.Rand) {
	w.Helper()
	want := told(w.d)
	w.wants(api.CodeOK, of("Stop", uint32(space)))
	plan := life.Plan(w.d, space)
	w.plans(space, want.plan(space)...)
	if r != nil {
		rest := plan[:len(plan)-1]
		r.Shuffle(len(rest), func(i, j int) { rest[i], rest[j] = rest[j], rest[i] })
	}
	for _, page := range plan {
		w.wants(api.CodeOK, of("Remove", uint32(page)))
		want.entries[page] = entry.Entry{}
		clear(want.secure[page])
	}
	w.alike("P18.6: behind the last Remove", want)
	w.plans(space)
}

// orders: all orders of some numbers.
func orders(list []int) (all [][]int) {
	if len(list) == 0 {
		return [][]int{nil}
	}
	for i, n := range list {
		rest := append(append([]int{}, list[:i]...), list[i+1:]...)
		for _, order := range orders(rest) {
			all = append(all, append([]int{n}, order...))
		}
	}
	return all
}

// A space's pages may go in every order, the space itself last; meanwhile it is held.
func TestEveryOrder(t *testing.T) {
	for _, order := range orders([]int{1, 2, 3, 4}) {
		w := examples(t)
		w.fill(3, 5)
		w.wants(api.CodeOK, of("Spare", 0, 4))
		w.wants(api.CodeOK, of("Stop", 0))
		for _, page := range order {
			w.wants(api.CodeHeld, of("Remove", 0))
			w.wants(api.CodeOK, of("Remove", uint32(page)))
			w.wants(api.CodeFree, of("Remove", uint32(page)))
		}
		w.wants(api.CodeOK, of("Remove", 0))
	}
}

// Each space of a machine may be reclaimed, whichever is first, in whichever state it was.
func TestReclaimEach(t *testing.T) {
	for _, order := range orders([]int{0, 8, 16}) {
		w := states(t)
		for _, space := range order {
			w.reclaim(space, nil)
		}
		if w.d.Free() != 26 {
			t.Errorf("P18.6: %d pages are free", w.d.Free())
		}
	}
}

// Two pages are the least that a space has; 64 the most, which it may own all.
func TestLeastAndGreatest(t *testing.T) {
	for _, pages := range []int{2, 64} {
		w := booted(t, pages, 1)
		last := pages - 1
		w.born(last, 0)
		for page := 1; page < last; page++ {
			w.wants(api.CodeOK, of("Spare", uint32(last), uint32(page)))
		}
		w.entryIs(last, entry.Entry{Type: entry.Space, Owner: last, Refs: last, State: entry.Init})
		for _, page := range []int{0, last / 2, last} {
			w.wants(api.CodeUsed, of("Spare", uint32(last), uint32(page)))
		}
		w.wants(api.CodePage, of("Spare", uint32(last), uint32(pages)))
		w.wants(api.CodeOK, of("Final", uint32(last)))
		w.reclaim(last, nil)
	}
	w := booted(t, 1, 1)
	for _, name := range []string{"Final", "Stop"} {
		w.wants(api.CodeSpace, of(name, 0))
		w.wants(api.CodePage, of(name, 1))
	}
	w.wants(api.CodeSpace, of("Spare", 0, 0))
	w.wants(api.CodeFree, of("Remove", 0))
	w.wants(api.CodePage, of("Remove", 1))
	w.plans(0)
}

// A page comes back zero, whatever stood there, and serves another space.
func TestPagesAgain(t *testing.T) {
	w := booted(t, 5, 1)
	for turn := range 10 {
		at := func(i int) int { return (turn + i) % 5 }
		w.born(at(0), at(1))
		w.take(at(2), entry.Data, at(0))
		w.fill(at(2), uint32(turn))
		w.wants(api.CodeOK, of("Spare", uint32(at(0)), uint32(at(3))))
		w.ok("Turn", w.d.Turn(at(3), entry.Second))
		w.wants(api.CodeNotStopped, of("Remove", uint32(at(3))))
		w.ok("Turn", w.d.Turn(at(3), entry.Spare))
		w.wants(api.CodeOK, of("Remove", uint32(at(3))))
		w.reclaim(at(0), nil)
		if p := told(w.d); w.d.Free() != 5 || p.births != turn+1 {
			t.Fatalf("P18.6: %d pages are free, %d births", w.d.Free(), p.births)
		}
	}
}

// A free page in which somebody wrote is given as it is: no word is touched.
func TestSpareTouchesNothing(t *testing.T) {
	w := examples(t)
	w.fill(4, 9)
	w.wants(api.CodeOK, of("Spare", 0, 4))
	w.wordsAre("P18.1", 4, 0, 9)
	w.wants(api.CodeOK, of("Remove", 4))
	w.wordsAre("P18.4", 4, 0, make([]uint32, 1024)...)
}
