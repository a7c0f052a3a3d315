package walk_test

import (
	"math"
	"math/rand"
	"slices"
	"testing"

	"warden/api"
	"warden/mem"
	"warden/walk"
)

// lists: List of a page that is there against the plain one, with what it touches and that it changes no word.
func lists(t *testing.T, m *mem.Memory, l1 int) []walk.At {
	t.Helper()
	want, touched := over(m).list(l1)
	kept, was := m.Clone(), m.Meter()
	got, e := walk.List(m, l1)
	if e != api.OK || !slices.Equal(got, want) {
		t.Fatalf("P9.6: List(%d) has %d, %d; want %d", l1, len(got), e, len(want))
	}
	if m.Meter()-was != touched {
		t.Fatalf("P9.6: List(%d) touches %d words, want %d", l1, m.Meter()-was, touched)
	}
	if !m.Same(kept) {
		t.Fatalf("P9.7: List(%d) changes words", l1)
	}
	return got
}

func TestExample5(t *testing.T) {
	m := example4(t)
	shared := walk.Map{Frame: ins(1), Write: true}
	was := m.Meter()
	if got, e := walk.List(m, 1); e != api.OK || !slices.Equal(got, []walk.At{{0x00403000, shared}}) || m.Meter()-was != 256+1024 {
		t.Errorf("P9.6: List = %+v, %d, %d touched", got, e, m.Meter()-was)
	}
	lay(m, 1, map[int]uint32{5: 0x201})
	was = m.Meter()
	if got, e := walk.List(m, 1); e != api.OK || !slices.Equal(got, []walk.At{{0x00403000, shared}, {0x01403000, shared}}) || m.Meter()-was != 256+2048 {
		t.Errorf("P9.6: List = %+v, %d, %d touched", got, e, m.Meter()-was)
	}
}

func TestListOfNoPage(t *testing.T) {
	m := example4(t)
	was := m.Meter()
	for _, l1 := range []int{math.MinInt, -1 << 32, -1, 8, 9, 64, 1 << 32, 1<<32 + 1, math.MaxInt} {
		if got, e := walk.List(m, l1); len(got) != 0 || e != api.ErrPage || m.Meter() != was {
			t.Errorf("P9.6: List(%d) = %v, %d, %d touched", l1, got, e, m.Meter()-was)
		}
	}
}

func TestListOfTablesThatSayNothing(t *testing.T) {
	m := memory(t, 8, 2)
	if got := lists(t, m, 7); len(got) != 0 {
		t.Errorf("P9.6: List of an empty table: %v", got)
	}
	// Words that are no descriptors, or of pages that aren't there, and descriptors behind the words that count.
	lay(m, 1, map[int]uint32{0: 0x203, 1: 0x801, 2: 0x4001, 3: 0x80000201, 4: 0x200, 256: 0x201, 1023: 0x201})
	lay(m, 2, map[int]uint32{0: 0x107})
	if got := lists(t, m, 1); len(got) != 0 {
		t.Errorf("P9.6: List of a table without descriptors: %v", got)
	}
	lay(m, 1, map[int]uint32{255: 0x301})
	lay(m, 3, map[int]uint32{0: 9, 1: 0x803, 2: 0x201, 3: 0x4001, 4: 0x311, 5: 0x80000103, 6: 0x100})
	if got := lists(t, m, 1); len(got) != 0 {
		t.Errorf("P9.6: List of a second table without descriptors: %v", got)
	}
	lay(m, 1, map[int]uint32{0: 0x201})
	lay(m, 3, map[int]uint32{1023: 0x101})
	if got := lists(t, m, 1); len(got) != 2 || got[0].VA != 0 || got[1].VA != 0x3ffff000 {
		t.Errorf("P9.6: List of the outermost addresses: %v", got)
	}
}

// All that may be mapped is: 256 times 1024 pages.
func TestListOfFullTables(t *testing.T) {
	m := memory(t, 64, 64)
	p := over(m)
	var words []uint32
	for w := range p.seconds {
		words = append(words, w)
	}
	slices.Sort(words)
	for off := range 1024 {
		m.Write(sec(2), off, words[off%len(words)])
	}
	for off := range 256 {
		m.Write(sec(1), off, 0x201)
	}
	if got := lists(t, m, 1); len(got) != 1<<18 {
		t.Errorf("P9.6: List has %d pages", len(got))
	}
}

func TestRandomLists(t *testing.T) {
	r := rand.New(rand.NewSource(96))
	for range 12 {
		m := scattered(t, r)
		for l1 := range m.Secure() {
			lists(t, m, l1)
		}
	}
}

func TestListIsNewMemory(t *testing.T) {
	m := example4(t)
	lay(m, 2, map[int]uint32{4: 0x10b, 5: 0x001})
	a, _ := walk.List(m, 1)
	b, _ := walk.List(m, 1)
	want := slices.Clone(a)
	a = a[:cap(a)]
	for i := range a {
		a[i] = walk.At{VA: 99}
	}
	if !slices.Equal(b, want) {
		t.Error("P9.7: two answers share memory")
	}
	lay(m, 2, map[int]uint32{3: 0, 4: 0})
	if !slices.Equal(b, want) {
		t.Error("P9.7: an answer changes with the memory")
	}
	if got := lists(t, m, 1); len(got) != 1 || got[0].VA != 0x00405000 {
		t.Errorf("P9.6: List behind a change: %v", got)
	}
}
