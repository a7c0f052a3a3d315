package host_test

import (
	"fmt"
	"slices"
	"strings"
	"testing"

	"warden/api"
	"warden/entry"
	"warden/host"
	"warden/image"
)

// mixed: all kinds, in an order in which pages of parts, threads and shares are none of them as their places.
func mixed(t *testing.T) image.Image {
	t.Helper()
	return parsed(t, strings.Join([]string{
		"spare", "table 1", "thread 0x401000", "share 0x402000 rw", "table 0",
		"data 0x401000 rx", "code", "movi r1 0x2000", "movt r1 0x40", "ldr r2 r1 0", "add r0 r0 r2", "svc 0", "done", "end",
		"spare", "thread 0x1004", "share 0x5000 r",
		"data 0x1000 rwx", "code", "word 0", "movi r1 0x5000", "ldr r0 r1 0", "svc 0", "done", "end",
		"thread 0x401010", "spare",
	}, "\n")+"\n")
}

// typesOf: of the secure pages.
func (w world) typesOf(pages []int) string {
	var names []string
	for _, page := range pages {
		e, _ := w.h.Machine().DB().Entry(page)
		names = append(names, entry.TypeName(e.Type))
	}
	return strings.Join(names, " ")
}

// measured: the measurement that a space has.
func (w world) measured(space int) (m [8]uint32) {
	for k := range m {
		m[k] = w.h.Machine().DB().Memory().Peek(api.Frame{Secure: true, Page: space}, entry.SpaceMeasure+k)
	}
	return m
}

func TestLoadTakesTheLeastPagesInOrder(t *testing.T) {
	w := made(t, 40, 8)
	i := mixed(t)
	w.loads(program(t, plus, "share 0x9000 r"), 0)
	w.loads(i, 1)
	w.hasPages(1, 5, 6, 7, 8, 9, 10, 11, 12, 13, 14, 15, 16)
	types := "space first spare second thread second data spare thread data thread spare"
	if got := w.typesOf([]int{5, 6, 7, 8, 9, 10, 11, 12, 13, 14, 15, 16}); got != types {
		t.Errorf("P24.2: the pages are %s", got)
	}
	// A gap of five pages and one share; the next one takes it, and what else it needs behind.
	w.drop(0)
	w.isFree(28, 5)
	w.loads(i, 2)
	w.hasPages(2, 0, 1, 2, 3, 4, 17, 18, 19, 20, 21, 22, 23)
	if got := w.typesOf([]int{0, 1, 2, 3, 4, 17, 18, 19, 20, 21, 22, 23}); got != types {
		t.Errorf("P24.2: the pages are %s", got)
	}
	want, _ := image.Measure(i)
	if w.measured(5) != want || w.measured(0) != want {
		t.Errorf("P24.8: the measurements are %x, %x; the image's is %x", w.measured(5), w.measured(0), want)
	}
	for _, id := range []int{1, 2} {
		if n, e := w.h.Threads(id); n != 3 || e != api.OK {
			t.Errorf("P24.3: Threads(%d): %d, %d", id, n, e)
		}
		if n, e := w.h.Shares(id); n != 2 || e != api.OK {
			t.Errorf("P24.3: Shares(%d): %d, %d", id, n, e)
		}
	}
	w.numbered(1)
	w.numbered(2)
}

// numbered: threads and shares of the mixed image have the numbers of their parts.
func (w world) numbered(id int) {
	w.Helper()
	w.poke(id, 0, 0, 1000)
	w.poke(id, 1, 0, 2000)
	w.runs(host.Job{Id: id, Thread: 0, A: 5}, 100, api.CodeOK, 1005)
	w.runs(host.Job{Id: id, Thread: 1, A: 5}, 100, api.CodeOK, 2000)
	w.runs(host.Job{Id: id, Thread: 2, A: 5}, 100, api.CodeOK, 5)
}

// What is one page too much, of either kind, is refused ahead of every call; what fits just so isn't.
func TestLoadFull(t *testing.T) {
	i := mixed(t) // twelve pages, two shares
	for secure := 2; secure <= 14; secure++ {
		for insecure := 2; insecure <= 5; insecure++ {
			w := made(t, secure, insecure)
			id, e := w.load(i)
			want := api.OK
			if secure < 12 || insecure < 3 {
				want = api.ErrFull
			}
			if id != 0 || e != want {
				t.Errorf("P24.2: Load with %d and %d pages: %d, %d; want %d", secure, insecure, id, e, want)
			}
			if e == api.ErrFull && w.h.Machine().Meter() != int64(1024*secure) {
				t.Errorf("P24.2: a Load that is ErrFull touches words")
			}
		}
	}
}

// What is no image is that also where nothing is free.
func TestLoadOfNoImage(t *testing.T) {
	w := made(t, 2, 2)
	w.loads(image.Image{}, 0)
	for _, parts := range [][]image.Part{
		{{}}, {{Kind: 9}}, {{Kind: -1}}, {{Kind: image.Table, Index: 256}}, {{Kind: image.Share, VA: 0x1000}}, {{Kind: image.Spare, Index: 1}},
		{{Kind: image.Table}, {Kind: image.Table}}, slices.Repeat([]image.Part{{Kind: image.Spare}}, 63), {{Kind: image.Table}, {Kind: image.Data, Words: make([]uint32, 1025)}},
	} {
		if id, e := w.load(image.Image{Parts: parts}); id != 0 || e != api.ErrImage {
			t.Errorf("P24.2: Load of %.100v: %d, %d", parts, id, e)
		}
	}
	if id, e := w.load(image.Image{}); id != 0 || e != api.ErrFull {
		t.Errorf("P24.2: Load of the empty image: %d, %d", id, e)
	}
	w.drop(0)
	w.loads(image.Image{Parts: []image.Part{}}, 1)
}

// The greatest image takes the whole machine, but for its insecure page 0.
func TestLoadTheGreatest(t *testing.T) {
	w := made(t, 64, 64)
	parts := []image.Part{{Kind: image.Table}}
	for k := range uint32(63) {
		parts = append(parts, image.Part{Kind: image.Share, VA: k << 12, Write: k%2 > 0})
		if k < 60 {
			parts = append(parts, image.Part{Kind: image.Data, VA: (k + 100) << 12, Words: slices.Repeat([]uint32{k * 0x01010101}, int(k)*17)})
		}
	}
	parts = append(parts, image.Part{Kind: image.Thread, VA: 0x1000})
	i := image.Image{Parts: parts}
	for id := range 3 {
		w.loads(i, id)
		w.isFree(0, 0)
		if want, _ := image.Measure(i); w.measured(0) != want {
			t.Errorf("P24.8: the measurement is %x; want %x", w.measured(0), want)
		}
		for k := range 63 {
			if v, e := w.peek(id, k, 9); v != uint32(id*100+k)*min(1, uint32(id)) || e != api.OK {
				t.Fatalf("P24.4: a word of the share %d: %d, %d", k, v, e)
			}
			w.poke(id, k, 9, uint32((id+1)*100+k))
		}
		w.drop(id)
		w.isFree(64, 63)
	}
}

// Where somebody else has a page, each call of the plan can be the one that is refused: nothing is left of the enclave, whatever was built of it.
func TestLoadRefusedAtEachCall(t *testing.T) {
	i := mixed(t)
	for page := 0; page < 12; page++ {
		for _, swapped := range []bool{false, true} {
			w := made(t, 20, 8)
			w.loads(program(t, loop, "share 0x9000 r"), 0)
			w.run(host.Job{}, 5)
			space, first := uint32(page+5), uint32(19)
			if swapped {
				space, first = first, space
			}
			w.foreign(10, space, first, 0, 0, 0)
			was := w.h.Machine().Clone()
			id, e := w.load(i)
			if id != 0 || e != api.ErrRefused {
				t.Fatalf("P24.2: page %d is somebody's: Load: %d, %d", page, id, e)
			}
			w.isFree(15, 6)
			// But where the space's own page is another's space: that one is taken for it.
			for k := range 20 {
				is, _ := w.h.Machine().DB().Entry(k)
				had, _ := was.DB().Entry(k)
				if is != had && !(page == 0 && !swapped) {
					t.Errorf("P24.2: page %d is somebody's: page %d is %+v now; was %+v", page, k, is, had)
				}
			}
			w.goesOn(0, 0, 5, api.CodeInterrupted, 0)
			w.foreign(19, space, 0, 0, 0, 0)
			w.foreign(20, first, 0, 0, 0, 0)
			w.foreign(20, space, 0, 0, 0, 0)
			w.loads(i, 1)
			w.hasPages(1, 5, 6, 7, 8, 9, 10, 11, 12, 13, 14, 15, 16)
			w.numbered(1)
		}
	}
}

// Behind the last birth no space can be made: the space's page is stopped all the same, and nothing is removed.
func TestLoadBehindTheLastBirth(t *testing.T) {
	w := made(t, 9, 4)
	for id := range 64 {
		i := image.Image{}
		if id%2 > 0 {
			i = program(t, draw, "share 0x4000 r", "spare")
		}
		w.loads(i, id)
		if id < 62 {
			w.drop(id)
		}
	}
	w.drop(62)
	w.drop(63)
	w.isFree(9, 3)
	meter := w.h.Machine().Meter()
	for range 3 {
		if id, e := w.load(program(t, plus)); id != 0 || e != api.ErrRefused {
			t.Errorf("P24.2: Load behind 64 births: %d, %d", id, e)
		}
		if r := w.h.Machine().Registers(); r != [15]uint32{uint32(api.CodeSpace)} || w.h.Machine().Meter() != meter {
			t.Errorf("P24.2: behind it the registers are %v: they aren't those of a CallStop; or %d words are touched", r, w.h.Machine().Meter()-meter)
		}
		w.isFree(9, 3)
	}
	if id, e := w.load(image.Image{Parts: slices.Repeat([]image.Part{{Kind: image.Spare}}, 8)}); id != 0 || e != api.ErrFull {
		t.Errorf("P24.2: Load of too many parts behind 64 births: %d, %d", id, e)
	}
}

// The registers that no call of the host's lays stay; those that one lays are 0, where it uses none.
func TestRegistersStay(t *testing.T) {
	w := made(t, 12, 4)
	for r := range 15 {
		w.h.Machine().SetRegister(r, uint32(0xa0+r))
		w.p.m.SetRegister(r, uint32(0xa0+r))
	}
	behind := func(what string, first ...uint32) {
		t.Helper()
		want := [15]uint32{0, 0, 0, 0, 0, 0xa5, 0xa6, 0xa7, 0xa8, 0xa9, 0xaa, 0xab, 0xac, 0xad, 0xae}
		copy(want[:], first)
		if got := w.h.Machine().Registers(); got != want {
			t.Errorf("P24.2: behind %s the registers are %#x; want %#x", what, got, want)
		}
	}
	looks := func(what string, first ...uint32) {
		t.Helper()
		w.h.Free()
		w.h.Live()
		w.peek(0, 0, 0)
		w.poke(0, 0, 0, 7)
		w.run(host.Job{Id: 0, Thread: 9}, 5)
		w.goOn(0, 9, 5)
		w.grow(9)
		w.drop(9)
		w.turns(make([]host.Job, 300), 5, 1)
		behind(what, first...)
	}
	looks("nothing", 0xa0, 0xa1, 0xa2, 0xa3, 0xa4)
	w.loads(program(t, plus, "share 0x4000 rw"), 0)
	looks("Load: CallFinal")
	w.runs(host.Job{A: 11, B: 12, C: 13}, 50, api.CodeOK, 12)
	looks("Run", 0, 12, 11, 12, 13)
	w.runs(host.Job{A: 11, B: 12, C: 13}, 0, api.CodeInterrupted, 0)
	looks("Run, interrupted", 9, 0, 11, 12, 13)
	w.goesOn(0, 0, 50, api.CodeOK, 12)
	looks("Go", 0, 12)
	w.grow(0)
	looks("Grow", 0, 0, 5)
	w.drop(0)
	looks("Drop")
}

// Numbers go on, whatever was dropped or refused between.
func TestNumbersAreUsedOnce(t *testing.T) {
	w := made(t, 12, 4)
	i := program(t, plus)
	w.loads(i, 0)
	w.loads(i, 1)
	w.load(i)
	w.drop(1)
	w.load(image.Image{Parts: []image.Part{{}}})
	w.loads(i, 2)
	w.drop(0)
	w.foreign(10, 1, 11, 0, 0, 0)
	if _, e := w.load(i); e != api.ErrRefused {
		t.Errorf("P24.2: Load: %d", e)
	}
	w.foreign(19, 1, 0, 0, 0, 0)
	w.foreign(20, 11, 0, 0, 0, 0)
	w.foreign(20, 1, 0, 0, 0, 0)
	w.loads(i, 3)
	w.drop(3)
	w.drop(2)
	w.loads(i, 4)
	if got := fmt.Sprint(w.h.Live()); got != "[4]" {
		t.Errorf("P24.3: Live: %s", got)
	}
}
