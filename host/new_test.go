package host_test

import (
	"testing"

	"warden/api"
	"warden/host"
	"warden/monitor"
)

// refusesNew: there is no host over that machine, which is as it was.
func refusesNew(t *testing.T, what string, m *monitor.Monitor, want api.Errno) {
	t.Helper()
	was := m.Clone()
	if h, e := host.New(m); h != nil || e != want {
		t.Errorf("P24.1: New over %s: %v, %d; want %d", what, h, e, want)
	}
	sameMachines(t, "New over "+what, m, was)
}

func TestNewOverNone(t *testing.T) {
	if h, e := host.New(nil); h != nil || e != api.ErrState {
		t.Errorf("P24.1: New(nil): %v, %d", h, e)
	}
}

// Of every number of pages: all but the insecure page 0 are free.
func TestNewOfAllSizes(t *testing.T) {
	for n := 1; n <= 64; n++ {
		for _, shared := range []int{2, 3, n + 1, 65 - n, 64} {
			if shared < 2 || shared > 64 {
				continue
			}
			w := made(t, n, shared)
			w.isFree(n, shared-1)
			if len(w.h.Live()) != 0 {
				t.Errorf("P24.3: Live of a new host: %v", w.h.Live())
			}
		}
		refusesNew(t, "a machine with one insecure page", booted(t, n, 1), api.ErrConfig)
	}
}

// Whatever page is taken, of whichever type and state: there is no host.
func TestNewOverTakenPages(t *testing.T) {
	space := [5]uint32{10, 5, 3}
	for what, calls := range map[string][][5]uint32{
		"a space":         {space},
		"a final space":   {space, {16, 5}},
		"a stopped space": {space, {19, 5}},
		"one left alone":  {space, {19, 5}, {20, 3}},
		"a thread":        {space, {11, 5, 0, 0x1000}},
		"tables, a spare": {space, {12, 5, 7, 1}, {15, 5, 6}},
		"all of it": {space, {12, 5, 0, 0}, {13, 5, 1, 0x1003, 0}, {14, 5, 0x2003, 1}, {11, 5, 2, 0x1000}, {16, 5},
			{15, 5, 4}, {15, 5, 6}, {15, 5, 7}},
		"the first page": {{10, 0, 7}},
		"the last pages": {{10, 7, 6}},
		"the middle":     {{10, 3, 4}, {19, 3}},
	} {
		for _, shared := range []int{1, 2, 5} { // ErrState stands ahead of ErrConfig
			m := booted(t, 8, shared)
			for _, c := range calls {
				if code, _ := m.Do(c[0], c[1], c[2], c[3], c[4], 0); code != api.CodeOK && shared > 1 {
					t.Fatalf("%s: %v: %d", what, c, code)
				}
			}
			refusesNew(t, what, m, api.ErrState)
		}
	}
}

// A machine whose pages have all come back is as good as a new one, whatever stands in its registers and insecure pages.
func TestNewOverAMachineThatWasUsed(t *testing.T) {
	m := booted(t, 8, 3)
	for r := range 15 {
		m.SetRegister(r, uint32(r)*0x11111111)
	}
	m.Do(10, 3, 5, 0, 0, 0)
	m.Do(19, 3, 0, 0, 0, 0)
	refusesNew(t, "a stopped space", m, api.ErrState)
	m.Do(20, 5, 0, 0, 0, 0)
	m.Do(20, 3, 0, 0, 0, 0)
	m.Write(0, 7, 8)
	m.Write(2, 1023, 9)
	w := over(t, m)
	w.isFree(8, 2)
	w.loads(program(t, draw, "share 0x5000 rw", "share 0x6000 r"), 0)
	// The birth is the second one, and so are its draws.
	for _, want := range []uint32{80, 0, 0} {
		w.runs(host.Job{}, 100, api.CodeOK, want)
	}
	if v, e := w.peek(0, 1, 1023); v != 9 || e != api.OK {
		t.Errorf("P24.4: a word of the share 1: %d, %d", v, e)
	}
}

// Two hosts over two machines have nothing to do with one another; New over one machine twice makes two.
func TestHostsAreApart(t *testing.T) {
	a, b := made(t, 8, 3), made(t, 8, 3)
	a.loads(program(t, plus), 0)
	b.same("what another host did")
	b.isFree(8, 2)
	first := booted(t, 8, 3)
	one, _ := host.New(first)
	two, e := host.New(first)
	if one == two || e != api.OK || one.Machine() != two.Machine() {
		t.Errorf("P24.1: New twice: %v, %v, %d", one, two, e)
	}
}
