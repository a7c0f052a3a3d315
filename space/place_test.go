package space_test

import (
	"math"
	"slices"
	"testing"

	"warden/api"
	"warden/entry"
	"warden/pagedb"
	"warden/walk"
)

// noPages: numbers of no page of a machine of eight, among them such as are one when their upper bits are cut off.
var noPages = []int{math.MinInt, -1 << 32, math.MinInt32, -256, -8, -1, 8, 9, 63, 64, 255, 256, 1 << 16, math.MaxInt32, 1 << 32, 1<<32 + 2, math.MaxInt}

// noIndices: of no first-level table's words that count.
var noIndices = []int{math.MinInt, -1 << 32, math.MinInt32, -256, -1, 256, 257, 1023, 1024, 1 << 16, 1 << 32, 1<<32 + 5, math.MaxInt}

// noMaps: maps that walk.Second refuses, those by the page first.
func noMaps() []walk.Map {
	var all []walk.Map
	for _, page := range []int{math.MinInt, -1 << 32, -1, 64, 65, 1 << 24, 1 << 32, 1<<32 + 1, math.MaxInt, 0, 1, 63} {
		for _, write := range []bool{false, true} {
			all = append(all, walk.Map{Frame: insecure(page), Write: write, Exec: true})
		}
	}
	return all
}

func TestPlaceExamples(t *testing.T) {
	w := begin(t)
	w.AddTable(0, 0, 2)
	w.wants("P14.4: Slot(0, 0x5000)", w.Slot(0, 0x5000), api.OK)
	w.wants("P14.4: Slot(0, 0x5002)", w.Slot(0, 0x5002), api.ErrVA)
	w.wants("P14.4: Slot(0, 0x400000)", w.Slot(0, 0x400000), api.ErrNoTable)
	m := walk.Map{Frame: secure(3), Write: true}
	w.wants("P14.5: Put(0, 0x5008)", w.Put(0, 0x5008, m), api.OK)
	if v := w.word(2, 5); v != 0x307 {
		t.Fatalf("P14.5: the place holds %#x", v)
	}
	w.wants("P14.4: Slot(0, 0x5ffc)", w.Slot(0, 0x5ffc), api.ErrSlot)
	if got, e := w.At(0, 0x5000); got != m || e != api.OK {
		t.Fatalf("P14.7: At(0, 0x5000) = %+v, %d", got, e)
	}
	_, e := w.At(0, 0x6000)
	w.wants("P14.7: At(0, 0x6000)", e, api.ErrNone)
	w.wants("P14.5: an insecure page that may be executed", w.Put(0, 0x6000, walk.Map{Frame: insecure(1), Exec: true}), api.ErrArg)
	w.wants("P14.5: the page 64", w.Put(0, 0x6000, walk.Map{Frame: secure(64)}), api.ErrRange)
	w.wants("P14.5: a page that there isn't", w.Put(0, 0x6000, walk.Map{Frame: secure(9)}), api.OK)
	_, e = w.At(0, 0x6000)
	w.wants("P14.7: a page that there isn't", e, api.ErrTable)
	if list, e := w.List(0); e != api.OK || !slices.Equal(list, []walk.At{{VA: 0x5000, Map: m}}) {
		t.Fatalf("P14.8: List(0) = %+v, %d", list, e)
	}
	w.wants("P14.6: Cut(0, 0x5000)", w.Cut(0, 0x5000), api.OK)
	w.wants("P14.6: again", w.Cut(0, 0x5000), api.ErrNone)
	w.wants("P14.6: Cut(0, 0x6000)", w.Cut(0, 0x6000), api.OK)
}

// round: all that may be done at an address, and back, so that the place is empty again.
func (w world) round(n int, va uint32, m walk.Map) {
	w.Helper()
	page := va &^ 0xfff
	w.wants("P14.4: Slot", w.Slot(n, va), api.OK)
	w.wants("P14.5: Put", w.Put(n, va, m), api.OK)
	for _, same := range []uint32{page, page + 4, page + 0xffc, va} {
		w.wants("P14.4: Slot where a map is", w.Slot(n, same), api.ErrSlot)
		w.wants("P14.5: Put where a map is", w.Put(n, same, noMaps()[0]), api.ErrSlot)
		w.At(n, same)
	}
	for _, other := range []uint32{page - 4, page + 0x1000, page ^ 0x400000, page ^ 0x200000} {
		w.At(n, other)
		w.Slot(n, other)
		w.Cut(n, other)
	}
	w.wants("P14.6: Cut", w.Cut(n, va), api.OK)
	w.wants("P14.6: Cut of nothing", w.Cut(n, page), api.ErrNone)
}

func TestPlacesOfAddresses(t *testing.T) {
	w := begin(t)
	for i, l2 := range map[int]int{0: 2, 1: 4, 128: 2, 255: 4} {
		w.AddTable(0, i, l2)
		for _, j := range []int{0, 1, 255, 256, 511, 512, 1022, 1023} {
			for _, low := range []uint32{0, 4, 0x800, 0xffc} {
				w.round(0, uint32(i)<<22|uint32(j)<<12|low, walk.Map{Frame: secure(3), Exec: j%2 == 0})
			}
		}
		w.lay(1, i, 0)
	}
}

func TestAddressesThatAreNone(t *testing.T) {
	w := begin(t)
	for index := range 256 {
		w.AddTable(0, index, 2)
	}
	w.lay(2, 0, 0x307)
	for _, va := range []uint32{1, 2, 3, 5, 0xffd, 0x1001, 0x3fffffff, 0x3ffffffe, 0x40000000, 0x40000004, 0x40001000, 0x7ffffffc, 0x80000000, 0xc0000000, 0xfffffffc, 0xffffffff} {
		_, e := w.At(0, va)
		w.wants("P14.7: At", e, api.ErrVA)
		w.wants("P14.4: Slot", w.Slot(0, va), api.ErrVA)
		w.wants("P14.5: Put", w.Put(0, va, noMaps()[0]), api.ErrVA)
		w.wants("P14.6: Cut", w.Cut(0, va), api.ErrVA)
	}
}

// Every map there is, each kind of error, and an error leaves the place empty.
func TestPutOfMaps(t *testing.T) {
	w := begin(t)
	w.AddTable(0, 200, 4)
	for _, m := range w.maps {
		w.round(0, 200<<22|700<<12|8, m)
	}
	for _, m := range noMaps() {
		want := api.ErrRange
		if m.Frame.Page >= 0 && m.Frame.Page < 64 {
			want = api.ErrArg
		}
		w.wants("P14.5: Put", w.Put(0, 200<<22, m), want)
		w.wants("P14.5: Put where there is no table", w.Put(0, 201<<22, m), api.ErrNoTable)
		m.Frame.Secure = true
		w.Put(0, 200<<22, m)
		w.Cut(0, 200<<22)
	}
}

// What stands at a place may be no descriptor: it is in the way, it can be cut, and it is no map.
func TestPlacesThatHoldAnything(t *testing.T) {
	w := begin(t)
	w.AddTable(0, 5, 2)
	for _, v := range []uint32{1, 2, 4, 9, 0x100, 0x105, 0x107, 0x205, 0x703, 0x803, 0x4001, 0x10001, 0x80000000, 0x80000307, 0xffffffff} {
		w.lay(2, 6, v)
		w.wants("P14.4: Slot", w.Slot(0, 5<<22|6<<12), api.ErrSlot)
		w.wants("P14.5: Put", w.Put(0, 5<<22|6<<12, walk.Map{}), api.ErrSlot)
		w.At(0, 5<<22|6<<12)
		w.List(0)
		w.wants("P14.6: Cut", w.Cut(0, 5<<22|6<<12), api.OK)
		if w.word(2, 6) != 0 {
			t.Fatalf("P14.6: behind Cut the place holds %#x", w.word(2, 6))
		}
	}
}

// A word of the first-level table that names no second-level table of the space: there is none, whatever stands in that page.
func TestFirstLevelWordsThatNameNone(t *testing.T) {
	w := begin(t)
	w.wants("TakeSpace", w.d.TakeSpace(6, 7), api.OK)
	w.wants("Take", w.d.Take(5, entry.Second, 6), api.OK)
	for page := range 8 {
		w.lay(page, 9, 0x307)
	}
	for v, want := range map[uint32]api.Errno{0x201: api.OK, 0x401: api.OK} {
		w.lay(1, 3, v)
		w.wants("P14.6: Cut", w.Cut(0, 3<<22|9<<12), want)
		w.wants("P14.4: Slot", w.Slot(0, 3<<22|9<<12), want)
	}
	for _, v := range []uint32{0, 1, 0x101, 0x301, 0x501, 0x601, 0x701, 0x801, 0x3f01, 0x4001, 0x4201, 0x200, 0x203, 0x202, 0x205, 0x10201, 0x80000201, 0xffffffff} {
		w.lay(1, 3, v)
		_, e := w.At(0, 3<<22|9<<12)
		w.wants("P14.7: At", e, api.ErrNoTable)
		w.wants("P14.4: Slot", w.Slot(0, 3<<22|9<<12), api.ErrNoTable)
		w.wants("P14.5: Put", w.Put(0, 3<<22|9<<12, noMaps()[0]), api.ErrNoTable)
		w.wants("P14.6: Cut", w.Cut(0, 3<<22|9<<12), api.ErrNoTable)
		w.List(0)
	}
}

// The words behind the first 256 of a first-level table are nobody's.
func TestWordsBehindAFirstLevelTable(t *testing.T) {
	w := begin(t)
	for off := 256; off < 1024; off++ {
		w.lay(1, off, 0x201)
	}
	w.lay(2, 0, 0x307)
	if list, e := w.List(0); len(list) != 0 || e != api.OK {
		t.Fatalf("P14.8: List(0) = %+v, %d", list, e)
	}
	for i := range uint32(256) {
		w.wants("P14.4: Slot", w.Slot(0, i<<22), api.ErrNoTable)
	}
}

// Two spaces of one machine: what one is told changes nothing of the other.
func TestTwoSpaces(t *testing.T) {
	w := over(t, pagedb.New(machine(t, 8, 2)))
	for _, n := range []int{0, 4} {
		w.wants("TakeSpace", w.d.TakeSpace(n, n+1), api.OK)
		w.wants("Take", w.d.Take(n+2, entry.Second, n), api.OK)
		w.wants("P14.3: AddTable", w.AddTable(n, 7, n+2), api.OK)
	}
	w.wants("P14.5: Put", w.Put(0, 7<<22, walk.Map{Frame: insecure(1)}), api.OK)
	w.wants("P14.4: Slot", w.Slot(4, 7<<22), api.OK)
	w.wants("P14.5: Put", w.Put(4, 7<<22, walk.Map{Frame: insecure(0), Write: true}), api.OK)
	w.wants("SetState", w.d.SetState(0, entry.Stopped), api.OK)
	w.wants("P14.6: Cut", w.Cut(0, 7<<22), api.ErrState)
	w.wants("P14.6: Cut", w.Cut(4, 7<<22), api.OK)
}
