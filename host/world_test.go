package host_test

import (
	"maps"
	"slices"
	"strconv"
	"testing"

	"warden/api"
	"warden/host"
	"warden/image"
	"warden/monitor"
	"warden/valid"
)

// told: what Run and Go answer.
type told struct {
	code  api.Code
	value uint32
	e     api.Errno
}

// world: a host, each call of which is held against the plain one.
type world struct {
	*testing.T
	h    *host.Host
	p    *plain
	seen map[string]int // how often each error and each code came
}

func seed() [8]uint32 { return [8]uint32{1, 2, 3, 0x80000004, 5, 6, 7, 0xfffffff8} }

// streams: draws of the first births.
func streams() [][]uint32 {
	return [][]uint32{{70, 71, 72}, {80}, {}, {90, 91}, {100, 101, 102, 103}}
}

func booted(t *testing.T, secure, insecure int) *monitor.Monitor {
	t.Helper()
	m, e := monitor.New(monitor.Config{Secure: secure, Insecure: insecure, Seed: seed(), Streams: streams()})
	if e != api.OK {
		t.Fatalf("monitor.New of %d and %d pages: %d", secure, insecure, e)
	}
	return m
}

// over: a host over a machine, which is as it was.
func over(t *testing.T, m *monitor.Monitor) world {
	t.Helper()
	p := plainly(m.Clone())
	h, e := host.New(m)
	if h == nil || e != api.OK || h.Machine() != m {
		t.Fatalf("P24.1: New: %v, %d", h, e)
	}
	w := world{t, h, p, map[string]int{}}
	w.same("New")
	return w
}

func made(t *testing.T, secure, insecure int) world {
	t.Helper()
	return over(t, booted(t, secure, insecure))
}

// same: both machines are the same, the meter too, and both hosts know the same.
func (w world) same(what string) {
	w.Helper()
	m := w.h.Machine()
	sameMachines(w.T, what, m, w.p.m)
	secure, insecure := w.h.Free()
	if a, b := w.p.free(); secure != a || insecure != b {
		w.Fatalf("P24.1: behind %s: Free: %d, %d; want %d, %d", what, secure, insecure, a, b)
	}
	live := slices.Sorted(maps.Keys(w.p.all))
	if !slices.Equal(w.h.Live(), live) {
		w.Fatalf("P24.3: behind %s: Live: %v; want %v", what, w.h.Live(), live)
	}
	for id := -1; id <= w.p.loads; id++ {
		x, want := w.p.all[id], api.OK
		if x == nil {
			x, want = &tenant{}, api.ErrUnknown
		}
		threads, e1 := w.h.Threads(id)
		shares, e2 := w.h.Shares(id)
		pages, e3 := w.h.Pages(id)
		if threads != len(x.threads) || shares != len(x.shares) || e1 != want || e2 != want || e3 != want {
			w.Fatalf("P24.3: behind %s: Threads, Shares, Pages of %d: %d, %d, %v, the errors %d, %d, %d", what, id, threads, shares, pages, e1, e2, e3)
		}
		if id >= 0 && !slices.Equal(pages, had(w.p.secure, id)) {
			w.Fatalf("P24.3: behind %s: Pages(%d): %v; want %v", what, id, pages, had(w.p.secure, id))
		}
	}
}

// sameMachines: in all that they tell; and they are valid.
func sameMachines(t *testing.T, what string, a, b *monitor.Monitor) {
	t.Helper()
	switch {
	case a.Registers() != b.Registers():
		t.Fatalf("behind %s: the registers are %#x; want %#x", what, a.Registers(), b.Registers())
	case !slices.Equal(a.DB().Words(), b.DB().Words()):
		t.Fatalf("behind %s: the entries are %#x; want %#x", what, a.DB().Words(), b.DB().Words())
	case !a.DB().Memory().Same(b.DB().Memory()):
		t.Fatalf("behind %s: the words of the pages are others", what)
	case a.Meter() != b.Meter():
		t.Fatalf("behind %s: the meter is at %d; want %d", what, a.Meter(), b.Meter())
	}
	if clause, page := valid.Broken(a.DB()); clause != 0 {
		t.Fatalf("behind %s: %s is not so at page %d", what, valid.Says(clause), page)
	}
}

// count: that an answer came.
func (w world) count(call string, e api.Errno, code api.Code) {
	w.seen[call+" "+strconv.Itoa(int(e))+" "+strconv.Itoa(int(code))]++
}

func (w world) load(i image.Image) (int, api.Errno) {
	w.Helper()
	got, e := w.h.Load(i)
	want, wantE := w.p.load(i)
	if got != want || e != wantE {
		w.Fatalf("P24.2: Load of %d parts: %d, %d; want %d, %d", len(i.Parts), got, e, want, wantE)
	}
	w.count("Load", e, 0)
	w.same("Load")
	return got, e
}

func (w world) drop(id int) api.Errno {
	w.Helper()
	e := w.h.Drop(id)
	if want := w.p.drop(id); e != want {
		w.Fatalf("P24.7: Drop(%d): %d; want %d", id, e, want)
	}
	w.count("Drop", e, 0)
	w.same("Drop")
	return e
}

func (w world) grow(id int) api.Errno {
	w.Helper()
	e := w.h.Grow(id)
	if want := w.p.grow(id); e != want {
		w.Fatalf("P24.7: Grow(%d): %d; want %d", id, e, want)
	}
	w.count("Grow", e, 0)
	w.same("Grow")
	return e
}

func (w world) peek(id, share, off int) (uint32, api.Errno) {
	w.Helper()
	got, e := w.h.Peek(id, share, off)
	if want, wantE := w.p.peek(id, share, off); got != want || e != wantE {
		w.Fatalf("P24.4: Peek(%d, %d, %d): %d, %d; want %d, %d", id, share, off, got, e, want, wantE)
	}
	w.count("Peek", e, 0)
	w.same("Peek")
	return got, e
}

func (w world) poke(id, share, off int, v uint32) api.Errno {
	w.Helper()
	e := w.h.Poke(id, share, off, v)
	if want := w.p.poke(id, share, off, v); e != want {
		w.Fatalf("P24.4: Poke(%d, %d, %d): %d; want %d", id, share, off, e, want)
	}
	w.count("Poke", e, 0)
	w.same("Poke")
	return e
}

func (w world) run(j host.Job, fuel int) told {
	w.Helper()
	var got told
	got.code, got.value, got.e = w.h.Run(j.Id, j.Thread, j.A, j.B, j.C, fuel)
	if want := w.p.run(j, fuel); got != want {
		w.Fatalf("P24.5: Run of %+v with the fuel %d: %+v; want %+v", j, fuel, got, want)
	}
	w.count("Run", got.e, got.code)
	w.same("Run")
	return got
}

func (w world) goOn(id, thread, fuel int) told {
	w.Helper()
	var got told
	got.code, got.value, got.e = w.h.Go(id, thread, fuel)
	if want := w.p.goOn(id, thread, fuel); got != want {
		w.Fatalf("P24.5: Go(%d, %d, %d): %+v; want %+v", id, thread, fuel, got, want)
	}
	w.count("Go", got.e, got.code)
	w.same("Go")
	return got
}

func (w world) turns(jobs []host.Job, fuel, most int) ([]host.Done, api.Errno) {
	w.Helper()
	got, e := w.h.Turns(jobs, fuel, most)
	if want, wantE := w.p.turns(jobs, fuel, most); !slices.Equal(got, want) || e != wantE {
		w.Fatalf("P24.6: Turns of %+v with the fuel %d, %d: %+v, %d; want %+v, %d", jobs, fuel, most, got, e, want, wantE)
	}
	w.count("Turns", e, 0)
	for _, d := range got {
		w.count("Turns", d.Err, d.Code)
	}
	w.same("Turns")
	return got, e
}

// foreign: a call of somebody else's, on both machines.
func (w world) foreign(n, a, b, c, d uint32, fuel int) api.Code {
	w.Helper()
	code, value := w.h.Machine().Do(n, a, b, c, d, fuel)
	if want, wantValue := w.p.m.Do(n, a, b, c, d, fuel); code != want || value != wantValue {
		w.Fatalf("a foreign call %d: %d, %d; want %d, %d", n, code, value, want, wantValue)
	}
	w.same("a foreign call")
	return code
}

// loads: an enclave that the machine has room for, of that number.
func (w world) loads(i image.Image, want int) {
	w.Helper()
	if id, e := w.load(i); id != want || e != api.OK {
		w.Fatalf("P24.2: Load: %d, %d; want %d", id, e, want)
	}
}

func (w world) runs(j host.Job, fuel int, code api.Code, value uint32) {
	w.Helper()
	if got := w.run(j, fuel); got != (told{code, value, api.OK}) {
		w.Errorf("P24.5: Run of %+v with the fuel %d: %+v; want %d, %d", j, fuel, got, code, value)
	}
}

func (w world) goesOn(id, thread, fuel int, code api.Code, value uint32) {
	w.Helper()
	if got := w.goOn(id, thread, fuel); got != (told{code, value, api.OK}) {
		w.Errorf("P24.5: Go(%d, %d, %d): %+v; want %d, %d", id, thread, fuel, got, code, value)
	}
}

func (w world) isFree(secure, insecure int) {
	w.Helper()
	if a, b := w.h.Free(); a != secure || b != insecure {
		w.Errorf("P24.1: Free: %d, %d; want %d, %d", a, b, secure, insecure)
	}
}

func (w world) hasPages(id int, want ...int) {
	w.Helper()
	if got, e := w.h.Pages(id); !slices.Equal(got, want) || e != api.OK {
		w.Errorf("P24.3: Pages(%d): %v, %d; want %v", id, got, e, want)
	}
}

// parsed: the image that a text says.
func parsed(t *testing.T, s string) image.Image {
	t.Helper()
	i, f := image.Parse(s)
	if f != (image.Fault{}) {
		t.Fatalf("image.Parse(%q): %+v", s, f)
	}
	return i
}

// program: an image of a table at index 0, a data page with a program at 0x1000, a thread there, and what further lines say.
func program(t *testing.T, source string, lines ...string) image.Image {
	t.Helper()
	s := "table 0\ndata 0x1000 rx\ncode\n" + source + "\ndone\nend\nthread 0x1000\n"
	for _, line := range lines {
		s += line + "\n"
	}
	return parsed(t, s)
}

const (
	plus = "addi r0 r0 1\nsvc 0" // its argument and one
	loop = "x: b al x"           // it never ends
	draw = "svc 6\nmov r0 r1\nsvc 0"
)
