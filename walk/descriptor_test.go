package walk_test

import (
	"math"
	"math/rand"
	"testing"

	"warden/api"
	"warden/walk"
)

// noPages: numbers that no page has, of either kind.
var noPages = []int{math.MinInt, math.MinInt32, -1 << 24, -256, -64, -1, 64, 65, 127, 128, 255, 256, 1 << 24, math.MaxInt32, 1 << 32, 1<<32 + 5, 1<<56 + 5, math.MaxInt}

func TestFirst(t *testing.T) {
	for w, page := range firsts() {
		if got, e := walk.First(page); got != w || e != api.OK {
			t.Errorf("P9.2: First(%d) = %#x, %d; want %#x", page, got, e, w)
		}
	}
	for _, page := range noPages {
		if w, e := walk.First(page); w != 0 || e != api.ErrRange {
			t.Errorf("P9.2: First(%d) = %#x, %d", page, w, e)
		}
	}
}

func TestSecond(t *testing.T) {
	for w, m := range seconds() {
		if got, e := walk.Second(m); got != w || e != api.OK {
			t.Errorf("P9.3: Second(%+v) = %#x, %d; want %#x", m, got, e, w)
		}
	}
	for _, write := range []bool{false, true} {
		for page := range 64 {
			m := walk.Map{Frame: ins(page), Write: write, Exec: true}
			if w, e := walk.Second(m); w != 0 || e != api.ErrArg {
				t.Errorf("P9.3: Second(%+v) = %#x, %d", m, w, e)
			}
		}
		for _, page := range noPages {
			for _, exec := range []bool{false, true} {
				for _, f := range []api.Frame{sec(page), ins(page)} {
					m := walk.Map{Frame: f, Write: write, Exec: exec}
					if w, e := walk.Second(m); w != 0 || e != api.ErrRange {
						t.Errorf("P9.3: Second(%+v) = %#x, %d", m, w, e)
					}
				}
			}
		}
	}
}

func TestDescriptorExamples(t *testing.T) {
	for w, want := range map[uint32]api.Errno{0: api.ErrNone, 0x500: api.ErrTable, 0x503: api.ErrTable, 0x4001: api.ErrTable, 0x80000001: api.ErrTable} {
		if page, e := walk.ParseFirst(w); page != 0 || e != want {
			t.Errorf("P9.2: ParseFirst(%#x) = %d, %d; want %d", w, page, e, want)
		}
	}
	if page, e := walk.ParseFirst(0x501); page != 5 || e != api.OK {
		t.Errorf("P9.2: ParseFirst(0x501) = %d, %d", page, e)
	}
	for w, want := range map[uint32]walk.Map{0x307: {Frame: sec(3), Write: true}, 1: {Frame: ins(0)}, 0x205: {Frame: ins(2), Write: true}, 0x10b: {Frame: sec(1), Exec: true}, 0x30f: {Frame: sec(3), Write: true, Exec: true}} {
		if m, e := walk.ParseSecond(w); m != want || e != api.OK {
			t.Errorf("P9.3: ParseSecond(%#x) = %+v, %d; want %+v", w, m, e, want)
		}
		if got, e := walk.Second(want); got != w || e != api.OK {
			t.Errorf("P9.3: Second(%+v) = %#x, %d; want %#x", want, got, e, w)
		}
	}
	for w, want := range map[uint32]api.Errno{0: api.ErrNone, 9: api.ErrTable, 0x4001: api.ErrTable, 0x310: api.ErrTable} {
		if m, e := walk.ParseSecond(w); m != (walk.Map{}) || e != want {
			t.Errorf("P9.3: ParseSecond(%#x) = %+v, %d; want %d", w, m, e, want)
		}
	}
}

// wordsToParse: all of the lowest ones, each descriptor with one or two bits turned, and some of everywhere.
func wordsToParse() []uint32 {
	var all []uint32
	for w := range uint32(1 << 16) {
		all = append(all, w, w<<16)
	}
	for w := range seconds() {
		for a := range 32 {
			for b := range 32 {
				all = append(all, w^1<<a|1<<b, w^1<<a^1<<b)
			}
		}
	}
	r := rand.New(rand.NewSource(92))
	for range 100000 {
		all = append(all, r.Uint32(), r.Uint32()&0x80003f0f, 0xffffffff-uint32(r.Intn(4096)))
	}
	return all
}

func TestParseTakesWhatIsGivenAndNothingElse(t *testing.T) {
	first, second := firsts(), seconds()
	for _, w := range wordsToParse() {
		wantE := api.ErrTable
		if w == 0 {
			wantE = api.ErrNone
		}
		wantPage, is := first[w]
		wantFirst := wantE
		if is {
			wantFirst = api.OK
		}
		if page, e := walk.ParseFirst(w); page != wantPage || e != wantFirst {
			t.Fatalf("P9.2: ParseFirst(%#x) = %d, %d; want %d, %d", w, page, e, wantPage, wantFirst)
		}
		wantMap, is := second[w]
		wantSecond := wantE
		if is {
			wantSecond = api.OK
		}
		if m, e := walk.ParseSecond(w); m != wantMap || e != wantSecond {
			t.Fatalf("P9.3: ParseSecond(%#x) = %+v, %d; want %+v, %d", w, m, e, wantMap, wantSecond)
		}
	}
}
