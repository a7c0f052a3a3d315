package host_test

import (
	"fmt"
	"math"
	"testing"

	"warden/api"
	"warden/entry"
	"warden/host"
	"warden/image"
)

func TestUnknownEnclaves(t *testing.T) {
	w := made(t, 20, 3)
	w.loads(program(t, plus), 0)
	w.loads(program(t, plus), 1)
	w.drop(0)
	was := w.h.Machine().Clone()
	for _, id := range []int{math.MinInt, -1, 0, 2, 3, 63, 1 << 32, 1<<32 + 1, math.MaxInt} {
		threads, e1 := w.h.Threads(id)
		shares, e2 := w.h.Shares(id)
		pages, e3 := w.h.Pages(id)
		if threads != 0 || shares != 0 || len(pages) != 0 || e1 != api.ErrUnknown || e2 != api.ErrUnknown || e3 != api.ErrUnknown {
			t.Errorf("P24.3: of %d: %d threads, %d shares, the pages %v; %d, %d, %d", id, threads, shares, pages, e1, e2, e3)
		}
		if grown, dropped := w.grow(id), w.drop(id); grown != api.ErrUnknown || dropped != api.ErrUnknown {
			t.Errorf("P24.7: Grow and Drop(%d): %d, %d", id, grown, dropped)
		}
	}
	sameMachines(t, "calls of unknown enclaves", w.h.Machine(), was)
}

// The least free page is given, wherever it lies; it is told among the others in its order.
func TestGrow(t *testing.T) {
	w := made(t, 18, 3)
	for id := range 3 {
		w.loads(program(t, plus), id)
	}
	w.drop(0)
	w.drop(1)
	w.loads(image.Image{}, 3)
	for range 3 {
		w.grow(2)
	}
	w.hasPages(2, 2, 3, 4, 10, 11, 12, 13, 14)
	w.grow(3)
	w.grow(2)
	w.hasPages(3, 0, 1, 5)
	w.hasPages(2, 2, 3, 4, 6, 10, 11, 12, 13, 14)
	if got := w.typesOf([]int{2, 3, 4, 6, 5}); got != "spare spare spare spare spare" {
		t.Errorf("P24.7: the pages are %s", got)
	}
	for range 6 {
		if e := w.grow(3); e != api.OK {
			t.Errorf("P24.7: Grow: %d", e)
		}
	}
	w.isFree(0, 2)
	for _, x := range []struct {
		id int
		e  api.Errno
	}{{2, api.ErrFull}, {3, api.ErrFull}, {0, api.ErrUnknown}, {4, api.ErrUnknown}} {
		if e := w.grow(x.id); e != x.e {
			t.Errorf("P24.7: Grow(%d): %d; want %d", x.id, e, x.e)
		}
	}
	w.runs(host.Job{Id: 2, A: 1}, 9, api.CodeOK, 2)
	w.drop(2)
	w.isFree(9, 2)
	w.hasPages(3, 0, 1, 5, 7, 8, 9, 15, 16, 17)
	w.drop(3)
	w.isFree(18, 2)
	w.isEmpty()
}

// isEmpty: all secure pages are free, and zero.
func (w world) isEmpty() {
	w.Helper()
	d := w.h.Machine().DB()
	for page := range d.Pages() {
		blank, _ := d.Memory().Blank(api.Frame{Secure: true, Page: page})
		w.p.m.DB().Memory().Blank(api.Frame{Secure: true, Page: page})
		if e, _ := d.Entry(page); e != (entry.Entry{}) || !blank {
			w.Errorf("P24.7: page %d is %+v; zero: %t", page, e, blank)
		}
	}
}

// What the monitor refuses leaves the page free.
func TestGrowRefused(t *testing.T) {
	w := made(t, 12, 3)
	w.loads(program(t, plus), 0)
	w.foreign(10, 5, 6, 0, 0, 0)
	for range 2 {
		if e := w.grow(0); e != api.ErrRefused {
			t.Errorf("P24.7: Grow, where somebody has the page: %d", e)
		}
		w.hasPages(0, 0, 1, 2, 3, 4)
		w.isFree(7, 2)
	}
	w.foreign(19, 5, 0, 0, 0, 0)
	w.foreign(20, 6, 0, 0, 0, 0)
	w.foreign(20, 5, 0, 0, 0, 0)
	w.grow(0)
	w.hasPages(0, 0, 1, 2, 3, 4, 5)
	w.foreign(19, 0, 0, 0, 0, 0)
	if e := w.grow(0); e != api.ErrRefused {
		t.Errorf("P24.7: Grow of a stopped space: %d", e)
	}
	w.isFree(6, 2)
	w.drop(0)
	w.isFree(12, 2)
	w.isEmpty()
}

// turnover: a thread that turns its spare pages r0 and r1 into a table and data there, stores, and goes on for ever.
const turnover = "mov r5 r0\nmov r6 r1\nmov r1 r5\nmovi r2 3\nsvc 5\nmov r1 r6\nmovi r2 0x1003\nmovt r2 0xc0\nsvc 3\naddi r2 r2 -3\nstr r0 r2 0\nstr r2 r2 8\nx: b al x"

// An enclave is taken down whatever its pages have become, with its threads interrupted or not; the others stay as they are, and run on.
func TestDrop(t *testing.T) {
	w := made(t, 24, 5)
	w.loads(program(t, plus, "share 0x4000 rw"), 0)
	w.loads(program(t, turnover, "spare", "thread 0x1000", "share 0x4000 rw", "spare"), 1)
	w.loads(program(t, loop), 2)
	w.grow(1)
	w.grow(0)
	w.hasPages(1, 5, 6, 7, 8, 9, 10, 11, 12, 18)
	w.runs(host.Job{Id: 2}, 5, api.CodeInterrupted, 0)
	w.runs(host.Job{Id: 1, A: 18, B: 10}, 1000, api.CodeInterrupted, 0)
	if got := w.typesOf([]int{10, 12, 18}); got != "data spare second" {
		t.Errorf("P24.7: the spare pages are %s", got)
	}
	w.poke(1, 0, 3, 33)
	was := w.h.Machine().Clone()
	if e := w.drop(1); e != api.OK {
		t.Errorf("P24.7: Drop(1): %d", e)
	}
	w.isFree(13, 3)
	w.onlyCame(was, 5, 6, 7, 8, 9, 10, 11, 12, 18)
	if fmt.Sprint(w.h.Live()) != "[0 2]" {
		t.Errorf("P24.3: Live: %v", w.h.Live())
	}
	w.runs(host.Job{A: 41}, 9, api.CodeOK, 42)
	w.goesOn(2, 0, 5, api.CodeInterrupted, 0)
	w.loads(program(t, plus, "share 0x4000 rw"), 3)
	w.hasPages(3, 5, 6, 7, 8, 9)
	if v, _ := w.peek(3, 0, 3); v != 33 {
		t.Errorf("P24.7: a word of the share behind Drop: %d", v)
	}
	for _, id := range []int{2, 0, 3} {
		w.drop(id)
	}
	w.isFree(24, 4)
	w.isEmpty()
}

// onlyCame: these secure pages are free and zero now, and no other page is other than it was.
func (w world) onlyCame(was interface {
	Read(page, off int) (uint32, api.Errno)
}, pages ...int) {
	w.Helper()
	d := w.h.Machine().DB()
	for _, page := range pages {
		if e, _ := d.Entry(page); e != (entry.Entry{}) {
			w.Errorf("P24.7: page %d is %+v", page, e)
		}
		for off := range 1024 {
			if v := d.Memory().Peek(api.Frame{Secure: true, Page: page}, off); v != 0 {
				w.Fatalf("P24.7: the word %d of page %d is %#x", off, page, v)
			}
		}
	}
	for page := range d.Memory().Insecure() {
		for off := range 1024 {
			if v, _ := was.Read(page, off); d.Memory().Peek(api.Frame{Page: page}, off) != v {
				w.Fatalf("P24.7: the word %d of the insecure page %d has changed", off, page)
			}
		}
	}
}

// Enclaves that somebody else has stopped, or has taken pages of, are dropped all the same.
func TestDropOfWhatOthersTouched(t *testing.T) {
	w := made(t, 12, 3)
	w.loads(program(t, plus, "spare"), 0)
	w.foreign(20, 5, 0, 0, 0, 0)  // its spare page is taken away
	w.foreign(15, 0, 11, 0, 0, 0) // and another one given
	w.hasPages(0, 0, 1, 2, 3, 4, 5)
	w.isFree(6, 2)
	w.foreign(19, 0, 0, 0, 0, 0)
	w.foreign(20, 3, 0, 0, 0, 0)
	w.drop(0)
	w.isFree(12, 2)
	w.isEmpty()
	w.loads(program(t, plus), 1)
	w.foreign(19, 0, 0, 0, 0, 0)
	for _, page := range []uint32{1, 2, 3, 4, 0} {
		w.foreign(20, page, 0, 0, 0, 0)
	}
	if e := w.drop(1); e != api.OK {
		t.Errorf("P24.7: Drop of what is gone: %d", e)
	}
	w.isFree(12, 2)
}
