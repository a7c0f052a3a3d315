package svc_test

import (
	"math/rand"
	"testing"

	"warden/api"
	"warden/entry"
)

// beside: the enclave of the pages 0 to 7 on a machine where much else is otherwise: so many pages, another enclave, insecure pages that it doesn't share, other streams than its own.
func beside(t *testing.T, stream []uint32, r *rand.Rand) []world {
	others := []uint32{r.Uint32(), r.Uint32()}
	alone := enclaves(t, 8, 2, 0)
	alone.streams = [][]uint32{stream}
	later := enclaves(t, 18, 3, 0, 8)
	later.streams = [][]uint32{stream, others}
	earlier := enclaves(t, 64, 64, 8, 0)
	earlier.streams = [][]uint32{others, stream, others}
	for i, w := range []world{alone, later, earlier} {
		w.fill(insecure(0), r.Uint32())
		w.fill(insecure(1), 5)
		if i > 0 {
			w.fill(insecure(2), r.Uint32())
			w.fill(secure(12), r.Uint32())
			w.ok("SetEntered", w.d.SetEntered(15, true))
			w.lay(15, entry.ThreadSaved, r.Uint32(), r.Uint32())
			done(w.d, ask{[8]uint32{}, nil, 15, api.SvcMap, file(14, 0x9003)})
			w.fill(secure(14), r.Uint32())
		}
		w.valid()
	}
	return []world{alone, later, earlier}
}

// sameOwn: the pages 0 to 7 of two machines are alike, but for the birth.
func sameOwn(t *testing.T, what string, one, other world) {
	t.Helper()
	for page := range 8 {
		a, _ := one.d.Entry(page)
		b, _ := other.d.Entry(page)
		if a != b {
			t.Fatalf("P19.6: %s: page %d is %+v here, %+v there", what, page, a, b)
		}
		for off := range 1024 {
			a, b := one.d.Memory().Peek(secure(page), off), other.d.Memory().Peek(secure(page), off)
			if a != b && (page != 0 || off != entry.SpaceBirth) {
				t.Fatalf("P19.6: %s: the word %d of page %d is %#x here, %#x there", what, off, page, a, b)
			}
		}
	}
}

// What a call does hangs on nothing that isn't the enclave's own.
func TestNothingElseIsSeen(t *testing.T) {
	for seed := range int64(40) {
		r := rand.New(rand.NewSource(19600 + seed))
		machines := beside(t, []uint32{r.Uint32(), r.Uint32(), r.Uint32()}, r)
		s := script{machines[0], r}
		for _, w := range machines[1:] {
			sameOwn(t, "ahead of all calls", s.world, w)
		}
		for range 60 {
			a, want := s.call()
			if a.thread != 7 {
				continue
			}
			for _, w := range machines[1:] {
				a.streams = w.streams
				if got := done(w.d, a); got != want {
					t.Fatalf("P19.6: call %d with %#x: %+v here, %+v there", a.n, a.file.R, want, got)
				}
				sameOwn(t, "behind a call", s.world, w)
			}
		}
	}
}
