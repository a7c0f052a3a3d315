package enter_test

import (
	"slices"
	"testing"

	"warden/api"
	"warden/entry"
	"warden/pagedb"
)

// beside: one enclave, in the pages 0 to 8, on machines of one size, where all else is otherwise: other enclaves ahead of it or behind it, what the insecure pages hold that it doesn't share, other streams than its own.
func beside(t *testing.T, c chance) []world {
	program, own := c.program(0), []uint32{c.Uint32(), c.Uint32(), c.Uint32()}
	var all []world
	for i := range 4 {
		w := booted(t, 20, 5)
		w.streams = roomy(own)
		if i == 1 {
			w.streams = roomy([]uint32{1, 2}, own, []uint32{c.Uint32()})
			w.raise(9, c.program(9))
		}
		w.raise(0, program)
		if i == 2 {
			w.streams = roomy(own, []uint32{c.Uint32(), c.Uint32()})
			w.raise(9, c.program(9))
		}
		for range 5 * i {
			w.write([]int{0, 3, 4}[c.Intn(3)], c.Intn(1024), c.Uint32())
		}
		all = append(all, w)
	}
	seed := c.Uint32()
	for _, w := range all {
		for off := range 1024 {
			w.write(1, off, seed*uint32(off))
			w.write(2, off, seed^uint32(off))
		}
	}
	return all
}

// mine: the frames that are the enclave's, or shared with it.
func mine() (all []api.Frame) {
	for page := range 9 {
		all = append(all, secure(page))
	}
	return append(all, insecure(1), insecure(2))
}

// sameOwn: the enclave is the same on two machines, but for which birth it is.
func sameOwn(t *testing.T, what string, one, other world) {
	t.Helper()
	for page := range 9 {
		a, _ := one.d.Entry(page)
		if b, _ := other.d.Entry(page); a != b {
			t.Fatalf("P20.6: %s: page %d is %+v here, %+v there", what, page, a, b)
		}
	}
	for _, frame := range mine() {
		for off := range 1024 {
			a, b := one.d.Memory().Peek(frame, off), other.d.Memory().Peek(frame, off)
			if a != b && (frame != secure(0) || off != entry.SpaceBirth) {
				t.Fatalf("P20.6: %s: the word %d of %+v is %#x here, %#x there", what, off, frame, a, b)
			}
		}
	}
}

// What a run does hangs on nothing that isn't the enclave's own, and changes nothing else.
func TestNothingElseIsSeen(t *testing.T) {
	for seed := range int64(40) {
		c := seeded(20600 + seed)
		machines := beside(t, c)
		for range 20 {
			a := ask{key: bootKey(), thread: 5 + uint32(c.Intn(2)), args: [3]uint32{c.Uint32(), c.Uint32() % 50, c.Uint32()}, fuel: c.fuel() % 2000}
			e, _ := machines[0].d.Entry(int(a.thread))
			a.resume = e.Entered
			off, v := c.Intn(1024), c.Uint32()
			var want told
			for i, w := range machines {
				w.write(2, off, v)
				was := w.d.Clone()
				a.streams = w.streams
				got := w.do(a)
				if i == 0 {
					want = got
				}
				if got != want {
					t.Fatalf("P20.6: %+v: %+v on machine %d, %+v elsewhere", a, got, i, want)
				}
				sameOwn(t, "behind a call", machines[0], w)
				w.restIs(was)
			}
		}
	}
}

// restIs: all that isn't the enclave's is as it was.
func (w world) restIs(was *pagedb.DB) {
	w.Helper()
	for page := 9; page < w.d.Pages(); page++ {
		a, _ := w.d.Entry(page)
		if b, _ := was.Entry(page); a != b {
			w.Fatalf("P20.5: page %d is %+v; was %+v", page, a, b)
		}
	}
	for _, frame := range frames(w.d.Memory()) {
		if slices.Contains(mine(), frame) {
			continue
		}
		for off := range 1024 {
			if a, b := w.d.Memory().Peek(frame, off), was.Memory().Peek(frame, off); a != b {
				w.Fatalf("P20.5: the word %d of %+v is %#x; was %#x", off, frame, a, b)
			}
		}
	}
}
