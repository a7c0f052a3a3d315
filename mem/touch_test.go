package mem_test

import (
	"math"
	"slices"
	"testing"

	"warden/api"
	"warden/mem"
)

// The chapter's examples 1 to 5, on one memory.
func TestExamples(t *testing.T) {
	for _, x := range [][2]int{{0, 1}, {1, 65}, {-1, 1}} {
		if m, e := mem.New(x[0], x[1]); m != nil || e != api.ErrArg {
			t.Errorf("P7.1: New(%d, %d): %d", x[0], x[1], e)
		}
	}
	m := memory(t, 2, 1)
	if m.Secure() != 2 || m.Insecure() != 1 || !m.Has(sec(1)) || m.Has(sec(2)) || m.Has(ins(1)) || m.Has(ins(-1)) {
		t.Error("P7.1: the pages of example 1")
	}
	tell := func(what string, v uint32, e api.Errno, wantV uint32, wantE api.Errno, meter int64) {
		t.Helper()
		if v != wantV || e != wantE || m.Meter() != meter {
			t.Errorf("P7.2: %s: %d, %d, meter %d; want %d, %d, %d", what, v, e, m.Meter(), wantV, wantE, meter)
		}
	}
	tell("Write", 0, m.Write(sec(1), 1023, 7), 0, api.OK, 1)
	v, e := m.Read(sec(1), 1023)
	tell("Read", v, e, 7, api.OK, 2)
	v, e = m.Read(sec(1), 1024)
	tell("Read of no word", v, e, 0, api.ErrOffset, 2)
	v, e = m.Read(sec(2), 5000)
	tell("Read of no page", v, e, 0, api.ErrPage, 2)
	tell("Peek", m.Peek(sec(1), 1023), 0, 7, 0, 2)
	tell("Peek of no page", m.Peek(sec(9), 0), 0, 0, 0, 2)
	tell("Copy", 0, m.Copy(ins(0), sec(1)), 0, api.OK, 2050)
	v, e = m.Read(ins(0), 1023)
	tell("Read of the copy", v, e, 7, api.OK, 2051)
	a, e := m.Blank(sec(0))
	tell("Blank", 0, e, 0, api.OK, 2051+1024)
	b, e := m.Blank(ins(0))
	tell("Blank", 0, e, 0, api.OK, 2051+2048)
	if !a || b {
		t.Errorf("P7.2: Blank: %v, %v; want true, false", a, b)
	}
	tell("Lay of 1023", 0, m.Lay(sec(0), make([]uint32, 1023)), 0, api.ErrLong, 2051+2048)
	tell("Lay of no page", 0, m.Lay(sec(5), nil), 0, api.ErrPage, 2051+2048)
	c := m.Clone()
	c.Write(sec(0), 0, 1)
	v, e = m.Read(sec(0), 0)
	tell("Read behind the clone's Write", v, e, 0, api.OK, 2051+2048+1)
	if m.Same(c) {
		t.Error("P7.4: Same in example 5")
	}
	m.Write(sec(0), 0, 1)
	if !m.Same(c) || m.Meter() == c.Meter() {
		t.Errorf("P7.4: not Same in example 5, or meters %d and %d", m.Meter(), c.Meter())
	}
}

// calls: each of the table's, by one frame and one offset; what it answers beside the error is 0, false or none.
func calls(m *mem.Memory, f api.Frame, off int) map[string]func() (empty bool, e api.Errno) {
	words := make([]uint32, 1024)
	return map[string]func() (bool, api.Errno){
		"Read":      func() (bool, api.Errno) { v, e := m.Read(f, off); return v == 0, e },
		"Write":     func() (bool, api.Errno) { return true, m.Write(f, off, 77) },
		"Zero":      func() (bool, api.Errno) { return true, m.Zero(f) },
		"Copy to":   func() (bool, api.Errno) { return true, m.Copy(f, sec(0)) },
		"Copy from": func() (bool, api.Errno) { return true, m.Copy(sec(0), f) },
		"Copy both": func() (bool, api.Errno) { return true, m.Copy(f, f) },
		"Page":      func() (bool, api.Errno) { w, e := m.Page(f); return len(w) == 0, e },
		"Lay":       func() (bool, api.Errno) { return true, m.Lay(f, words) },
		"Lay none":  func() (bool, api.Errno) { return true, m.Lay(f, nil) },
		"Lay more":  func() (bool, api.Errno) { return true, m.Lay(f, make([]uint32, 1025)) },
		"Blank":     func() (bool, api.Errno) { b, e := m.Blank(f); return !b, e },
	}
}

func TestNoSuchPage(t *testing.T) {
	m, p := marked(t, 3, 2)
	for _, f := range []api.Frame{sec(-1), sec(3), sec(4), sec(64), sec(math.MinInt), sec(math.MaxInt), sec(1 << 32), ins(-1), ins(2), ins(3), ins(64), ins(1 << 32), ins(math.MinInt), ins(math.MaxInt)} {
		for _, off := range []int{0, 1023, -1, 1024, 5000} {
			for name, call := range calls(m, f, off) {
				if empty, e := call(); e != api.ErrPage || !empty {
					t.Fatalf("P7.2: %s of %v at %d: %d, nothing beside it: %v", name, f, off, e, empty)
				}
				if m.Meter() != p.meter {
					t.Fatalf("P7.2: %s of %v moves the meter", name, f)
				}
			}
		}
	}
	p.holds(t, "P7.2", m)
}

func TestNoSuchWord(t *testing.T) {
	m, p := marked(t, 3, 2)
	for _, f := range p.frames() {
		for _, off := range []int{math.MinInt, -1 << 32, -1024, -1, 1024, 1025, 2047, 1 << 32, math.MaxInt} {
			if v, e := m.Read(f, off); v != 0 || e != api.ErrOffset {
				t.Errorf("P7.2: Read(%v, %d): %#x, %d", f, off, v, e)
			}
			if e := m.Write(f, off, 5); e != api.ErrOffset {
				t.Errorf("P7.2: Write(%v, %d): %d", f, off, e)
			}
		}
	}
	p.holds(t, "P7.2", m)
}

func TestLayTakesOnePageOfWords(t *testing.T) {
	m, p := marked(t, 1, 1)
	for _, n := range []int{0, 1, 1022, 1023, 1025, 1026, 2048, 4096} {
		for _, f := range p.frames() {
			if e := m.Lay(f, make([]uint32, n, 5000)); e != api.ErrLong {
				t.Errorf("P7.2: Lay(%v, %d words): %d", f, n, e)
			}
		}
	}
	p.holds(t, "P7.2", m)
}

func TestReadAndWriteOfEveryWord(t *testing.T) {
	m, p := marked(t, 2, 2)
	p.holds(t, "P7.5", m)
	for _, f := range p.frames() {
		for off := range 1024 {
			v, e := m.Read(f, off)
			p.meter++
			if v != p.word(f, off) || e != api.OK || m.Meter() != p.meter {
				t.Fatalf("P7.2: Read(%v, %d): %#x, %d, meter %d; want %#x, meter %d", f, off, v, e, m.Meter(), p.word(f, off), p.meter)
			}
			e = m.Write(f, off, v) // what stands there already touches one too
			p.meter++
			if e != api.OK || m.Meter() != p.meter {
				t.Fatalf("P7.2: Write(%v, %d) of the same: %d, meter %d, want %d", f, off, e, m.Meter(), p.meter)
			}
		}
	}
	for _, v := range []uint32{0, 1, 0x7fffffff, 0x80000000, 0xffffffff} {
		m.Write(ins(1), 512, v)
		p.put(ins(1), 512, v)
		p.meter++
		p.holds(t, "P7.5", m)
	}
}

func TestZero(t *testing.T) {
	_, p := marked(t, 3, 2)
	for _, f := range p.frames() {
		m, p := marked(t, 3, 2)
		for range 2 { // of words that are zero already as of others
			if e := m.Zero(f); e != api.OK {
				t.Fatalf("P7.2: Zero(%v): %d", f, e)
			}
			p.putAll(f, make([]uint32, 1024))
			p.meter += 1024
			p.holds(t, "P7.2", m)
		}
	}
}

func TestCopyOfEveryPageToEvery(t *testing.T) {
	_, p := marked(t, 2, 2)
	for _, to := range p.frames() {
		for _, from := range p.frames() {
			m, p := marked(t, 2, 2)
			if e := m.Copy(to, from); e != api.OK {
				t.Fatalf("P7.2: Copy(%v, %v): %d", to, from, e)
			}
			p.putAll(to, p.page(from))
			p.meter += 2048
			p.holds(t, "P7.2", m)
			// Behind the copy the two pages go their own ways.
			m.Write(from, 9, 1)
			p.put(from, 9, 1)
			m.Write(to, 10, 2)
			p.put(to, 10, 2)
			p.meter += 2
			p.holds(t, "P7.5", m)
		}
	}
}

func TestBlankLooksAtEveryWord(t *testing.T) {
	m, p := memory(t, 2, 2), newPlain(2, 2)
	for _, f := range p.frames() {
		for off := range 1024 {
			m.Write(f, off, 1<<(off%32))
			for _, other := range p.frames() {
				before := m.Meter()
				blank, e := m.Blank(other)
				if blank != (other != f) || e != api.OK || m.Meter() != before+1024 {
					t.Fatalf("P7.2: word %d of %v isn't 0: Blank(%v) = %v, %d, %d touched", off, f, other, blank, e, m.Meter()-before)
				}
			}
			m.Write(f, off, 0)
		}
	}
	p.meter = m.Meter()
	p.holds(t, "P7.5", m)
}

func TestPageIsNewMemory(t *testing.T) {
	m, p := marked(t, 2, 1)
	for _, f := range p.frames() {
		a, e := m.Page(f)
		b, e2 := m.Page(f)
		p.meter += 2048
		if e != api.OK || e2 != api.OK || !slices.Equal(a, p.page(f)) || !slices.Equal(b, a) {
			t.Fatalf("P7.2: Page(%v): %d and %d words, %d", f, len(a), len(b), e)
		}
		want := p.page(f)
		a = a[:cap(a)]
		for i := range a {
			a[i] = 99
		}
		if !slices.Equal(b, want) {
			t.Fatalf("P7.6: two answers of Page(%v) share memory", f)
		}
		p.holds(t, "P7.6", m)
		// The memory goes on, and what it answered stays.
		m.Write(f, 3, 4)
		m.Write(f, 3, want[3])
		m.Zero(f)
		if !slices.Equal(b, want) {
			t.Fatalf("P7.6: Page(%v) changes with the memory", f)
		}
		p.putAll(f, make([]uint32, 1024))
		p.meter += 1026
	}
}

func TestLayKeepsNothing(t *testing.T) {
	m, p := marked(t, 2, 1)
	for _, f := range p.frames() {
		room := make([]uint32, 1100)
		for i := range room {
			room[i] = uint32(i) * 0x01010101
		}
		kept := slices.Clone(room)
		words := room[20:1044]
		if e := m.Lay(f, words); e != api.OK {
			t.Fatalf("P7.2: Lay(%v): %d", f, e)
		}
		p.putAll(f, words)
		p.meter += 1024
		p.holds(t, "P7.2", m)
		m.Zero(f)
		m.Lay(f, words)
		m.Write(f, 0, 5)
		p.put(f, 0, 5)
		p.meter += 2049
		if !slices.Equal(room, kept) {
			t.Fatalf("P7.6: Lay(%v) changes its words or the room around them", f)
		}
		clear(room)
		p.holds(t, "P7.6", m)
	}
}

// One list laid into two pages: they go their own ways.
func TestLayTwice(t *testing.T) {
	m, p := memory(t, 1, 1), newPlain(1, 1)
	words := make([]uint32, 1024)
	words[1023] = 6
	m.Lay(sec(0), words)
	m.Lay(ins(0), words)
	m.Write(sec(0), 1023, 8)
	p.put(sec(0), 1023, 8)
	p.put(ins(0), 1023, 6)
	p.meter = 2049
	p.holds(t, "P7.5", m)
}
