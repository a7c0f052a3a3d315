package mem_test

import (
	"math"
	"testing"

	"warden/api"
	"warden/mem"
)

func TestNewTakesOneToSixtyFourOfEach(t *testing.T) {
	odd := []int{math.MinInt, math.MinInt32, -65, -64, -1, 0, 1, 2, 63, 64, 65, 66, 128, 1 << 16, math.MaxInt32, 1<<32 + 1, math.MaxInt}
	for _, s := range odd {
		for _, n := range odd {
			m, e := mem.New(s, n)
			want := api.ErrArg
			if s >= 1 && s <= 64 && n >= 1 && n <= 64 {
				want = api.OK
			}
			if e != want || (m == nil) != (want != api.OK) {
				t.Fatalf("P7.1: New(%d, %d): %v, %d; want %d", s, n, m != nil, e, want)
			}
			if m != nil && (m.Secure() != s || m.Insecure() != n) {
				t.Fatalf("P7.1: New(%d, %d) has %d and %d pages", s, n, m.Secure(), m.Insecure())
			}
		}
	}
}

func TestNewIsZero(t *testing.T) {
	for _, x := range [][2]int{{1, 1}, {2, 1}, {1, 3}, {64, 64}} {
		newPlain(x[0], x[1]).holds(t, "P7.1", memory(t, x[0], x[1]))
	}
}

func TestTwoNewOnesShareNothing(t *testing.T) {
	a, b := memory(t, 2, 2), memory(t, 2, 2)
	a.Write(sec(1), 5, 9)
	a.Write(ins(1), 6, 9)
	newPlain(2, 2).holds(t, "P7.5", b)
}

func TestHas(t *testing.T) {
	pages := []int{math.MinInt, math.MinInt32, -2, -1, 0, 1, 2, 3, 4, 5, 62, 63, 64, 65, 1 << 16, 1 << 32, 1<<32 + 1, math.MaxInt}
	for _, x := range [][2]int{{1, 1}, {2, 1}, {3, 5}, {5, 3}, {64, 63}, {63, 64}} {
		m, p := memory(t, x[0], x[1]), newPlain(x[0], x[1])
		for _, page := range pages {
			for _, f := range []api.Frame{sec(page), ins(page)} {
				if got := m.Has(f); got != p.has(f) {
					t.Errorf("P7.1: of %v pages Has(%v) = %v", x, f, got)
				}
			}
		}
		if m.Meter() != 0 {
			t.Errorf("P7.3: Has touches %d words", m.Meter())
		}
	}
}

func TestPeek(t *testing.T) {
	m, p := marked(t, 3, 2)
	p.holds(t, "P7.3", m)
	for _, f := range []api.Frame{sec(-1), sec(3), sec(64), sec(math.MaxInt), sec(math.MinInt), ins(-1), ins(2), ins(3), ins(1 << 32)} {
		for _, off := range []int{-1, 0, 1, 1023, 1024} {
			if v := m.Peek(f, off); v != 0 {
				t.Errorf("P7.3: Peek(%v, %d) of no page = %#x", f, off, v)
			}
		}
	}
	for _, off := range []int{math.MinInt, -1024, -1, 1024, 1025, 2048, 5000, 1 << 32, math.MaxInt} {
		for _, f := range p.frames() {
			if v := m.Peek(f, off); v != 0 {
				t.Errorf("P7.3: Peek(%v, %d) of no word = %#x", f, off, v)
			}
		}
	}
	p.holds(t, "P7.3", m)
}

func TestCloneIsTheSame(t *testing.T) {
	for _, x := range [][2]int{{1, 1}, {2, 1}, {3, 4}, {64, 64}} {
		m, p := marked(t, x[0], x[1])
		c := m.Clone()
		p.holds(t, "P7.4", c)
		p.holds(t, "P7.4", m)
		if !c.Same(m) || !m.Same(c) || !m.Same(m) {
			t.Errorf("P7.4: of %v pages a clone isn't the same", x)
		}
		if p.holds(t, "P7.4", m); c.Meter() != p.meter {
			t.Errorf("P7.3: Same touches words: %d, want %d", c.Meter(), p.meter)
		}
	}
}

// Every call that changes words, on one of the two: the other stays.
func TestCloneAndOriginalPart(t *testing.T) {
	words := make([]uint32, 1024)
	changes := map[string]func(m *mem.Memory) api.Errno{
		"Write": func(m *mem.Memory) api.Errno { return m.Write(sec(1), 7, 1) },
		"Zero":  func(m *mem.Memory) api.Errno { return m.Zero(ins(0)) },
		"Copy":  func(m *mem.Memory) api.Errno { return m.Copy(sec(0), ins(1)) },
		"Lay":   func(m *mem.Memory) api.Errno { return m.Lay(ins(1), words) },
	}
	for name, change := range changes {
		m, p := marked(t, 2, 2)
		c := m.Clone()
		again := c.Clone()
		if e := change(c); e != api.OK {
			t.Fatalf("P7.2: %s: %d", name, e)
		}
		p.holds(t, "P7.4", m)
		p.holds(t, "P7.4", again)
		if c.Same(m) || m.Same(c) {
			t.Errorf("P7.4: Same behind a %s of the clone", name)
		}
		if e := change(m); e != api.OK {
			t.Fatalf("P7.2: %s: %d", name, e)
		}
		p.holds(t, "P7.4", again)
		if !c.Same(m) || !m.Same(c) {
			t.Errorf("P7.4: not Same behind the same %s of both", name)
		}
	}
}

func TestSameLooksAtEveryWord(t *testing.T) {
	m, p := marked(t, 3, 2)
	c := m.Clone()
	for _, f := range p.frames() {
		for off := range 1024 {
			c.Write(f, off, m.Peek(f, off)^0x00010000)
			if m.Same(c) || c.Same(m) {
				t.Fatalf("P7.4: Same, but word %d of %v is another", off, f)
			}
			c.Write(f, off, m.Peek(f, off))
			if !m.Same(c) || !c.Same(m) {
				t.Fatalf("P7.4: not Same, though word %d of %v is back", off, f)
			}
		}
	}
}

func TestSameLooksAtTheNumbersOfPages(t *testing.T) {
	kinds := [][2]int{{1, 1}, {1, 2}, {2, 1}, {2, 2}, {3, 1}, {1, 3}, {64, 63}, {63, 64}}
	for _, x := range kinds {
		for _, y := range kinds {
			a, b := memory(t, x[0], x[1]), memory(t, y[0], y[1])
			if a.Same(b) != (x == y) {
				t.Errorf("P7.4: Same of %v and %v pages, all zero: %v", x, y, x != y)
			}
		}
	}
}

func TestSameLeavesTheMetersAside(t *testing.T) {
	a, b := memory(t, 1, 1), memory(t, 1, 1)
	a.Zero(sec(0))
	a.Read(ins(0), 3)
	if !a.Same(b) || !b.Same(a) || a.Meter() != 1025 || b.Meter() != 0 {
		t.Errorf("P7.4: meters %d and %d: Same %v, %v", a.Meter(), b.Meter(), a.Same(b), b.Same(a))
	}
}
