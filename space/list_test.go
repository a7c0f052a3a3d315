package space_test

import (
	"math/rand"
	"slices"
	"testing"

	"warden/api"
	"warden/entry"
	"warden/pagedb"
	"warden/sha"
	"warden/space"
	"warden/valid"
	"warden/walk"
)

// A page may be mapped more than once, by one table or by a table that stands at two places, and each mapping is told.
func TestListOfOnePageManyTimes(t *testing.T) {
	w := begin(t)
	w.AddTable(0, 255, 2)
	w.AddTable(0, 3, 2)
	m := walk.Map{Frame: insecure(1)}
	for _, va := range []uint32{255<<22 | 1023<<12, 255 << 22, 3<<22 | 8<<12} {
		w.wants("P14.5: Put", w.Put(0, va, m), api.OK)
	}
	want := []walk.At{{VA: 0xc00000, Map: m}, {VA: 0xc08000, Map: m}, {VA: 0xfff000, Map: m}, {VA: 0x3fc00000, Map: m}, {VA: 0x3fc08000, Map: m}, {VA: 0x3ffff000, Map: m}}
	if got, e := w.List(0); e != api.OK || !slices.Equal(got, want) {
		t.Fatalf("P14.8: List(0) = %+v, %d", got, e)
	}
}

func TestListIsNewMemory(t *testing.T) {
	w := begin(t)
	w.AddTable(0, 0, 2)
	for j := range uint32(5) {
		w.Put(0, j<<12, walk.Map{Frame: secure(int(j))})
	}
	a, _ := space.List(w.d, 0)
	b, _ := space.List(w.d, 0)
	want := slices.Clone(b)
	for i := range a[:cap(a)] {
		a[:cap(a)][i] = walk.At{VA: 1}
	}
	w.Cut(0, 0)
	if len(want) != 5 || !slices.Equal(b, want) {
		t.Fatalf("P14.8: two answers share memory: %v", b)
	}
}

// All 256 times 1024 places are told.
func TestListOfFullTables(t *testing.T) {
	w := begin(t)
	for index := range 256 {
		w.lay(1, index, 0x201)
	}
	for off := range 1024 {
		w.lay(2, off, 0x105)
	}
	if got, e := w.List(0); len(got) != 1<<18 || e != api.OK {
		t.Fatalf("P14.8: List(0) has %d, %d", len(got), e)
	}
}

// builder: lets valid states grow by the calls of this package and of the database.
type builder struct {
	world
	*rand.Rand
}

// some: a page of a type, and its owner; false, if there is none that is alive (or free).
func (b builder) some(t entry.Type) (page, owner int, is bool) {
	from := b.Intn(b.d.Pages())
	for k := range b.d.Pages() {
		page = (from + k) % b.d.Pages()
		e, _ := b.d.Entry(page)
		s, _ := b.d.Entry(e.Owner)
		if e.Type == t && (t == entry.Free || s.State != entry.Stopped) {
			return page, e.Owner, true
		}
	}
	return 0, 0, false
}

// index: of a first-level table: mostly one of few, so that tables and mappings meet.
func (b builder) index() int {
	return []int{0, 1, 2, 128, 255, b.Intn(256)}[b.Intn(6)]
}

// address: of any word, its page mostly one of few too.
func (b builder) address() uint32 {
	return uint32(b.index())<<22 | uint32(b.Intn(1024)>>b.Intn(11))<<12 | uint32(b.Intn(1024))<<2
}

func (b builder) born() {
	page, _, is := b.some(entry.Free)
	first, _, _ := b.some(entry.Free)
	if !is || b.d.TakeSpace(page, first) != api.OK {
		return
	}
	for i, v := range sha.New().Save() {
		b.lay(page, entry.SpaceDigest+i, v)
	}
}

func (b builder) grow() {
	page, _, is := b.some(entry.Free)
	n, _, alive := b.some(entry.Space)
	if !is || !alive {
		return
	}
	if b.Intn(2) == 0 {
		b.d.Take(page, entry.Second, n)
		if b.AddTable(n, b.index(), page) != api.OK {
			b.d.Give(page)
		}
		return
	}
	b.d.Take(page, entry.Data, n)
	for range 4 {
		if b.Put(n, b.address(), walk.Map{Frame: secure(page), Write: b.Intn(2) == 0, Exec: b.Intn(2) == 0}) == api.OK {
			return
		}
	}
	b.d.Give(page)
}

// shrink: a mapping goes, with its page, if that is data.
func (b builder) shrink() {
	n, _, alive := b.some(entry.Space)
	if !alive {
		return
	}
	list, _ := b.List(n)
	if len(list) == 0 {
		return
	}
	at := list[b.Intn(len(list))]
	b.wants("P14.6: Cut", b.Cut(n, at.VA|uint32(b.Intn(1024))<<2), api.OK)
	if at.Map.Frame.Secure {
		b.d.Give(at.Map.Frame.Page)
	}
}

func (b builder) step() {
	n, _, alive := b.some(entry.Space)
	switch k := b.Intn(20); {
	case k < 3:
		if b.d.Births() < 1+b.d.Pages()/8 {
			b.born()
		}
	case k < 11:
		b.grow()
	case k < 15 && alive:
		for range 4 {
			b.Put(n, b.address(), walk.Map{Frame: insecure(b.Intn(b.d.Memory().Insecure())), Write: b.Intn(2) == 0})
		}
	case k < 17:
		b.shrink()
	case k == 18 && alive && b.Intn(16) == 0:
		b.d.SetState(n, entry.Stopped)
	}
}

// walks: in a valid state a walk from the table tells what the package tells.
func (b builder) walks(n int) {
	b.Helper()
	table, e := space.Table(b.d, n)
	if e != api.OK {
		return
	}
	list, _ := b.List(n)
	if want, e := walk.List(b.d.Memory(), table); e != api.OK || !slices.Equal(list, want) {
		b.Fatalf("P14.9: List(%d) = %v; a walk tells %v", n, list, want)
	}
	for k := range 200 {
		va := b.address()
		switch {
		case k < len(list):
			va = list[k].VA | va%4096
		case k%20 == 19:
			va = b.Uint32()
		}
		got, e := b.At(n, va)
		want, wantE := walk.Walk(b.d.Memory(), table, va)
		if got != want || (e == api.OK) != (wantE == api.OK) {
			b.Fatalf("P14.9: At(%d, %#x) = %+v, %d; a walk tells %+v, %d", n, va, got, e, want, wantE)
		}
	}
}

func TestValidStates(t *testing.T) {
	told := map[bool]int{}
	for seed := range int64(20) {
		r := rand.New(rand.NewSource(1400 + seed))
		b := builder{over(t, pagedb.New(machine(t, 4+r.Intn(21), 1+r.Intn(4)))), r}
		for range 120 {
			b.step()
			if clause, page := valid.Broken(b.d); clause != 0 {
				t.Fatalf("seed %d: a step breaks clause %d at page %d", seed, clause, page)
			}
		}
		for n := range b.d.Pages() {
			b.walks(n)
			list, _ := space.List(b.d, n)
			for _, at := range list {
				told[at.Map.Frame.Secure]++
			}
		}
	}
	if told[true] < 30 || told[false] < 150 {
		t.Errorf("only so many mappings of secure pages, and of others: %v", told)
	}
}
