package walk_test

import (
	"math"
	"math/rand"
	"testing"

	"warden/api"
	"warden/mem"
	"warden/walk"
)

// walks: Walk, and every Translate, of one address against the plain ones, with what they touch.
func walks(t *testing.T, m *mem.Memory, l1 int, va uint32) {
	t.Helper()
	p := over(m)
	p.walks(t, l1, va)
}

func (p plain) walks(t *testing.T, l1 int, va uint32) {
	t.Helper()
	want, wantE, touched := p.walk(l1, va)
	was := p.m.Meter()
	if got, e := walk.Walk(p.m, l1, va); got != want || e != wantE || p.m.Meter()-was != touched {
		t.Fatalf("P9.4: Walk(%d, %#x) = %+v, %d, %d touched; want %+v, %d, %d", l1, va, got, e, p.m.Meter()-was, want, wantE, touched)
	}
	for _, a := range []walk.Access{walk.Load, walk.Store, walk.Fetch, 3, 4, -1, math.MinInt, math.MaxInt, 1 << 32} {
		wantF, wantOff, wantE := p.translate(l1, va, a)
		was := p.m.Meter()
		f, off, e := walk.Translate(p.m, l1, va, a)
		if f != wantF || off != wantOff || e != wantE {
			t.Fatalf("P9.5: Translate(%d, %#x, %d) = %v, %d, %d; want %v, %d, %d", l1, va, a, f, off, e, wantF, wantOff, wantE)
		}
		if p.m.Meter()-was != touched {
			t.Fatalf("P9.5: Translate(%d, %#x, %d) touches %d words, want %d", l1, va, a, p.m.Meter()-was, touched)
		}
	}
}

func TestExample4(t *testing.T) {
	m := example4(t)
	tell := func(l1 int, va uint32, want walk.Map, wantE api.Errno, touched int64) {
		t.Helper()
		was := m.Meter()
		if got, e := walk.Walk(m, l1, va); got != want || e != wantE || m.Meter()-was != touched {
			t.Errorf("P9.4: Walk(%d, %#x) = %+v, %d, %d touched", l1, va, got, e, m.Meter()-was)
		}
		walks(t, m, l1, va)
	}
	none := walk.Map{}
	tell(1, 0x00403008, walk.Map{Frame: ins(1), Write: true}, api.OK, 2)
	if f, off, e := walk.Translate(m, 1, 0x00403008, walk.Store); f != ins(1) || off != 2 || e != api.OK {
		t.Errorf("P9.5: Translate for Store: %v, %d, %d", f, off, e)
	}
	if f, off, e := walk.Translate(m, 1, 0x00403008, walk.Fetch); f != (api.Frame{}) || off != 0 || e != api.ErrDeny {
		t.Errorf("P9.5: Translate for Fetch: %v, %d, %d", f, off, e)
	}
	tell(1, 0, none, api.ErrNone, 1)
	tell(1, 0x00404000, none, api.ErrNone, 2)
	tell(8, 0, none, api.ErrPage, 0)
	tell(-1, 0, none, api.ErrPage, 0)
	tell(8, 1, none, api.ErrVA, 0)
	lay(m, 1, map[int]uint32{1: 0x901})
	tell(1, 0x00403008, none, api.ErrTable, 1)
	lay(m, 1, map[int]uint32{1: 0x201})
	lay(m, 2, map[int]uint32{3: 0x205})
	tell(1, 0x00403008, none, api.ErrTable, 2)
}

func TestWrongAddressesAndPages(t *testing.T) {
	m := example4(t)
	for _, l1 := range []int{math.MinInt, -1 << 32, -1, 0, 1, 2, 7, 8, 9, 63, 64, 1 << 32, 1<<32 + 1, math.MaxInt} {
		for _, va := range []uint32{0, 1, 2, 3, 4, 0x00403008, 0x00403009, 0x0040300a, 0x0040300b, 0x3ffffffc, 0x3fffffff, 0x40000000, 0x40403008, 0x80403008, 0xc0403008, 0xfffffffc, 0xffffffff} {
			walks(t, m, l1, va)
		}
	}
}

// Each word that a table may hold, at either level, in memories that have all the pages, some, and as few as may be.
func TestEveryDescriptorAtBothLevels(t *testing.T) {
	for _, size := range [][2]int{{64, 64}, {8, 2}, {2, 8}, {2, 1}, {63, 64}, {64, 63}} {
		m := memory(t, size[0], size[1])
		p := over(m)
		words := []uint32{0, 2, 9, 0xd, 0x100, 0x109, 0x4001, 0x4003, 0x311, 0x10001, 0x80000001, 0xffffffff}
		for w := range p.seconds {
			words = append(words, w)
		}
		for _, w := range words {
			lay(m, 1, map[int]uint32{200: w})
			p.walks(t, 1, 200<<22|700<<12|5<<2)
			lay(m, 1, map[int]uint32{200: 0x001})
			lay(m, 0, map[int]uint32{700: w})
			p.walks(t, 1, 200<<22|700<<12|5<<2)
			lay(m, 0, map[int]uint32{700: 0})
		}
	}
}

// The words that count are the address' own: each of the two tables holds one word alone.
func TestWalkReadsTheWordsOfTheAddress(t *testing.T) {
	m := memory(t, 4, 1)
	p := over(m)
	for _, i := range []int{0, 1, 127, 128, 254, 255} {
		for _, j := range []int{0, 1, 255, 256, 511, 512, 1022, 1023} {
			lay(m, 3, map[int]uint32{i: 0x201})
			lay(m, 2, map[int]uint32{j: 0x10f})
			for _, x := range []int{0, 1, 127, 128, 254, 255} {
				for _, y := range []int{0, 1, 255, 256, 511, 512, 1022, 1023} {
					p.walks(t, 3, uint32(x)<<22|uint32(y)<<12|1023<<2)
				}
			}
			lay(m, 3, map[int]uint32{i: 0})
			lay(m, 2, map[int]uint32{j: 0})
		}
	}
}

// A table may be its own second level, or lie where it is mapped; insecure pages of the table's number are no tables.
func TestTablesInOneAnother(t *testing.T) {
	m := memory(t, 3, 3)
	lay(m, 1, map[int]uint32{0: 0x101, 1: 0x103, 2: 0x001, 3: 0x001})
	lay(m, 0, map[int]uint32{0: 0x107, 1: 0x20b})
	m.Write(ins(1), 0, 0x207)
	m.Write(ins(0), 0, 0x207)
	for i := range uint32(4) {
		for j := range uint32(5) {
			walks(t, m, 1, i<<22|j<<12|j<<2)
			walks(t, m, 0, i<<22|j<<12|j<<2)
		}
	}
}

// scattered: a memory whose tables hold descriptors, some of pages that aren't there, and words that are none.
func scattered(t *testing.T, r *rand.Rand) *mem.Memory {
	m := memory(t, 1+r.Intn(8), 1+r.Intn(4))
	for page := range m.Secure() {
		for range r.Intn(400) {
			w := uint32(r.Intn(9))<<8 | uint32(r.Intn(16)) | 1
			switch r.Intn(8) {
			case 0:
				w = r.Uint32()
			case 1, 2, 3:
				w &= 0xff01
			}
			m.Write(sec(page), r.Intn(1024)>>r.Intn(8), w)
		}
	}
	return m
}

func TestRandomTables(t *testing.T) {
	r := rand.New(rand.NewSource(94))
	for range 60 {
		m := scattered(t, r)
		p := over(m)
		kept := m.Clone()
		for range 500 {
			va := uint32(r.Intn(256)>>r.Intn(8))<<22 | uint32(r.Intn(1024)>>r.Intn(8))<<12 | uint32(r.Intn(1024))<<2
			if r.Intn(50) == 0 {
				va = r.Uint32()
			}
			p.walks(t, r.Intn(m.Secure()+2)-1, va)
		}
		if !m.Same(kept) {
			t.Fatal("P9.7: a walk changes words")
		}
	}
}
