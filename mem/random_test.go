package mem_test

import (
	"math/rand"
	"slices"
	"testing"

	"warden/api"
	"warden/mem"
)

// pair: a memory and its plain picture, which have had the same calls.
type pair struct {
	m *mem.Memory
	p *plain
}

func anyFrame(r *rand.Rand) api.Frame {
	return api.Frame{Secure: r.Intn(2) == 0, Page: r.Intn(6) - 1}
}

func anyOff(r *rand.Rand) int {
	if r.Intn(8) == 0 {
		return []int{-1, 1024, 5000, 0, 1023}[r.Intn(5)]
	}
	return r.Intn(1024)
}

// step takes one call of the table on both, and holds what they answer against each other.
func (x pair) step(t *testing.T, r *rand.Rand) {
	t.Helper()
	f, g, off, v := anyFrame(r), anyFrame(r), anyOff(r), r.Uint32()>>r.Intn(32)
	got, want, touched := api.OK, api.OK, 0
	if !x.p.has(f) {
		want = api.ErrPage
	}
	kind := r.Intn(8)
	switch kind {
	case 0, 1:
		want, touched = x.p.fault(f, off), 1
		if got = x.m.Write(f, off, v); want == api.OK {
			x.p.put(f, off, v)
		}
	case 2:
		want, touched = x.p.fault(f, off), 1
		w := uint32(0)
		w, got = x.m.Read(f, off)
		if want == api.OK && w != x.p.word(f, off) || want != api.OK && w != 0 {
			t.Fatalf("P7.2: Read(%v, %d) = %#x", f, off, w)
		}
	case 3:
		touched = 1024
		if got = x.m.Zero(f); want == api.OK {
			x.p.putAll(f, make([]uint32, 1024))
		}
	case 4:
		touched = 2048
		if !x.p.has(g) {
			want = api.ErrPage
		}
		if got = x.m.Copy(f, g); want == api.OK {
			x.p.putAll(f, x.p.page(g))
		}
	case 5:
		touched = 1024
		var words []uint32
		words, got = x.m.Page(f)
		if want == api.OK && !slices.Equal(words, x.p.page(f)) || want != api.OK && len(words) != 0 {
			t.Fatalf("P7.2: Page(%v)", f)
		}
	case 6:
		touched = 1024
		words := make([]uint32, 1024+max(0, r.Intn(4)-2))
		for i := range words {
			words[i] = r.Uint32()
		}
		if want == api.OK && len(words) != 1024 {
			want = api.ErrLong
		}
		if got = x.m.Lay(f, words); want == api.OK {
			x.p.putAll(f, words)
		}
	case 7:
		touched = 1024
		blank := false
		blank, got = x.m.Blank(f)
		if blank != (want == api.OK && !slices.ContainsFunc(x.p.page(f), func(w uint32) bool { return w != 0 })) {
			t.Fatalf("P7.2: Blank(%v) = %v", f, blank)
		}
	}
	if want == api.OK {
		x.p.meter += int64(touched)
	}
	if got != want || x.m.Meter() != x.p.meter {
		t.Fatalf("P7.2: call %d of %v, %v, %d: %d, meter %d; want %d, %d", kind, f, g, off, got, x.m.Meter(), want, x.p.meter)
	}
}

// Several memories, clones of one another among them, under random calls: each is as its own plain picture.
func TestRandomCalls(t *testing.T) {
	r := rand.New(rand.NewSource(7))
	for range 20 {
		s, n := 1+r.Intn(4), 1+r.Intn(4)
		all := []pair{{memory(t, s, n), newPlain(s, n)}}
		for range 60 {
			x := all[r.Intn(len(all))]
			x.step(t, r)
			if r.Intn(12) == 0 && len(all) < 4 {
				all = append(all, pair{x.m.Clone(), x.p.clone()})
			}
		}
		for _, x := range all {
			x.p.holds(t, "P7.5", x.m)
			for _, y := range all {
				if x.m.Same(y.m) != alike(x.p, y.p) {
					t.Fatalf("P7.4: Same: %v", x.m.Same(y.m))
				}
			}
		}
	}
}

func alike(a, b *plain) bool {
	for _, f := range a.frames() {
		if !slices.Equal(a.page(f), b.page(f)) {
			return false
		}
	}
	return true
}
