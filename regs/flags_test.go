package regs_test

import (
	"math"
	"math/rand"
	"testing"

	"warden/api"
	"warden/isa"
	"warden/regs"
)

var edges = []uint32{0, 1, 2, 5, 7, 0x7ffffffe, 0x7fffffff, 0x80000000, 0x80000001, 0xfffffffe, 0xffffffff}

// compared: f with the flags of a against b, by numbers that hold every word, with its sign and without.
func compared(f regs.File, a, b uint32) regs.File {
	signed := func(w uint32) int64 {
		if w >= 1<<31 {
			return int64(w) - 1<<32
		}
		return int64(w)
	}
	f.Z = int64(a)-int64(b) == 0
	f.N = signed(a)-signed(b) < 0
	f.L = int64(a)-int64(b) < 0
	return f
}

func TestCompareExamples(t *testing.T) {
	for _, x := range []struct {
		a, b    uint32
		z, n, l bool
	}{
		{5, 5, true, false, false},
		{5, 7, false, true, true},
		{0xffffffff, 7, false, true, false},
		{7, 0xffffffff, false, false, true},
		{7, 5, false, false, false},
	} {
		for _, f := range flagged(full()) {
			want := f
			want.Z, want.N, want.L = x.z, x.n, x.l
			if g := regs.Compare(f, x.a, x.b); g != want {
				t.Errorf("P8.2: Compare(%+v, %#x, %#x) = %+v", f, x.a, x.b, g)
			}
		}
	}
}

func TestCompareEdgesAndAny(t *testing.T) {
	for _, a := range edges {
		for _, b := range edges {
			for _, f := range flagged(full()) {
				if g := regs.Compare(f, a, b); g != compared(f, a, b) {
					t.Errorf("P8.2: Compare(%+v, %#x, %#x) = %+v", f, a, b, g)
				}
			}
		}
	}
	r := rand.New(rand.NewSource(82))
	for range 5000 {
		f, a, b := random(r), r.Uint32(), r.Uint32()
		if r.Intn(4) == 0 {
			b = a + uint32(r.Intn(3)) - 1
		}
		if g := regs.Compare(f, a, b); g != compared(f, a, b) {
			t.Fatalf("P8.2: Compare(%+v, %#x, %#x) = %+v", f, a, b, g)
		}
	}
}

// Every condition at all eight settings of the flags, also those that no comparison gives.
func TestHolds(t *testing.T) {
	for _, words := range []regs.File{{}, full()} {
		for _, f := range flagged(words) {
			for c, want := range []bool{
				isa.Always: true,
				isa.Eq:     f.Z,
				isa.Ne:     !f.Z,
				isa.Lt:     f.N,
				isa.Ge:     !f.N,
				isa.Lo:     f.L,
				isa.Hs:     !f.L,
			} {
				if got := regs.Holds(f, isa.Cond(c)); got != want {
					t.Errorf("P8.3: Holds(%+v, %d) = %v", f, c, got)
				}
			}
			for _, c := range []isa.Cond{-1, -7, isa.Conds, 8, 9, 15, 16, 256, 1 << 32, 1<<32 + 1, math.MaxInt, math.MinInt} {
				if regs.Holds(f, c) {
					t.Errorf("P8.3: Holds(%+v, %d), which is no condition", f, c)
				}
			}
		}
	}
}

func TestHoldsExample(t *testing.T) {
	f := regs.Compare(full(), 0xffffffff, 7)
	for _, c := range []isa.Cond{isa.Always, isa.Ne, isa.Lt, isa.Hs} {
		if !regs.Holds(f, c) {
			t.Errorf("P8.3: condition %d doesn't hold", c)
		}
	}
	for _, c := range []isa.Cond{isa.Eq, isa.Ge, isa.Lo, 7, -1} {
		if regs.Holds(f, c) {
			t.Errorf("P8.3: condition %d holds", c)
		}
	}
}

func TestFlags(t *testing.T) {
	// By the place that flagged gives each setting: 1 for Z, 2 for N, 4 for L.
	want := []uint32{0, 1, 2, 1, 4, 1, 6, 1}
	for _, words := range []regs.File{{}, full()} {
		for k, f := range flagged(words) {
			if w := regs.Flags(f); w != want[k] {
				t.Errorf("P8.4: Flags(%+v) = %d, want %d", f, w, want[k])
			}
		}
	}
}

func TestFlagged(t *testing.T) {
	flags := map[uint32][3]bool{0: {}, 1: {true, false, false}, 2: {false, true, false}, 4: {false, false, true}, 6: {false, true, true}}
	words := edges
	for w := range uint32(300) {
		words = append(words, w)
	}
	for k := range 32 {
		words = append(words, 1<<k, 1<<k|1, 1<<k|2, 1<<k|4, 1<<k|6)
	}
	for _, f := range append(flagged(full()), regs.File{}) {
		for _, w := range words {
			checkFlagged(t, f, w, flags)
		}
	}
}

func checkFlagged(t *testing.T, f regs.File, w uint32, flags map[uint32][3]bool) {
	t.Helper()
	g, e := regs.Flagged(f, w)
	znl, ok := flags[w]
	if !ok {
		if g != (regs.File{}) || e != api.ErrContext {
			t.Errorf("P8.5: Flagged(%+v, %d) = %+v, %d; want the zero file and ErrContext", f, w, g, e)
		}
		return
	}
	want := f
	want.Z, want.N, want.L = znl[0], znl[1], znl[2]
	if g != want || e != api.OK || regs.Flags(g) != w {
		t.Errorf("P8.5: Flagged(%+v, %d) = %+v, %d", f, w, g, e)
	}
}
