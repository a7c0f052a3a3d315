package monitor_test

import (
	"testing"

	"warden/api"
	"warden/mem"
	"warden/monitor"
	"warden/pagedb"
	"warden/valid"
)

func TestOverOtherPages(t *testing.T) {
	for s := 1; s <= 8; s++ {
		for i := 1; i <= 8; i++ {
			memory, _ := mem.New(s, i)
			m, e := monitor.Over(monitor.Config{Secure: 4, Insecure: 5}, pagedb.New(memory), [15]uint32{})
			if fits := s == 4 && i == 5; fits != (m != nil) || fits != (e == api.OK) || !fits && e != api.ErrConfig {
				t.Errorf("P21.2: Over %d and %d pages: %v, %d", s, i, m, e)
			}
		}
	}
}

// harm: what breaks a clause, over an enclave in the pages 0 to 8 whose thread in page 5 is interrupted, and one in the pages 9 to 12 that is being built.
type harm struct {
	clause int
	does   func(d *pagedb.DB) *pagedb.DB
}

// entries: the database with the words of a page's entry.
func entries(page int, a, b uint32) func(*pagedb.DB) *pagedb.DB {
	return func(d *pagedb.DB) *pagedb.DB {
		words := d.Words()
		words[1+2*page], words[2+2*page] = a, b
		other, _ := pagedb.Load(d.Memory(), words)
		return other
	}
}

// laid: the database with a word of a secure page.
func laid(page, off int, v uint32) func(*pagedb.DB) *pagedb.DB {
	return func(d *pagedb.DB) *pagedb.DB {
		d.Memory().Write(secure(page), off, v)
		return d
	}
}

func harms() []harm {
	return []harm{
		{1, entries(9, 0x000a0011, 3)}, {2, laid(13, 5, 1)}, {3, entries(4, 0x00020005, 0)}, {4, entries(0, 0x00000021, 7)}, {5, laid(0, 1, 2)}, {5, laid(0, 2, 4097)},
		{6, laid(9, 3, 1)}, {6, laid(0, 1023, 1)}, {7, laid(0, 0, 2)}, {8, laid(1, 5, 1)}, {9, laid(2, 9, 3)}, {10, laid(2, 1, 0)}, {11, laid(6, 1, 1)}, {12, laid(7, 0, 1)},
	}
}

// settled: a machine with the enclaves of which a harm speaks.
func settled(t *testing.T) world {
	t.Helper()
	w := of(t, 14, 2)
	w.raise(0, "addi r0 r0 1\nb al -2")
	w.wants(api.CodeInterrupted, 0, 10, 17, 5, 1, 2, 3)
	w.takes([]uint32{10, 9, 10}, []uint32{12, 9, 11, 3}, []uint32{11, 9, 12, 77})
	return w
}

func TestOverHarmedStates(t *testing.T) {
	for i, h := range harms() {
		w := settled(t)
		c := w.m.Config()
		d := h.does(w.m.DB().Clone())
		if d == nil {
			t.Fatalf("%d: no database", i)
		}
		clause, _ := valid.Broken(d)
		if clause != h.clause {
			t.Fatalf("%d: the clause %d is broken; want %d", i, clause, h.clause)
		}
		meter := d.Memory().Meter()
		if m, e := monitor.Over(c, d, [15]uint32{}); m != nil || e != api.ErrBroken {
			t.Errorf("P21.2: Over a state in which not %s: %v, %d", valid.Says(clause), m, e)
		}
		c.Insecure++
		if m, e := monitor.Over(c, d, [15]uint32{}); m != nil || e != api.ErrConfig {
			t.Errorf("P21.2: both, with another number of pages: %v, %d", m, e)
		}
		if d.Memory().Meter() != meter {
			t.Errorf("P21.6: Over touches %d words", d.Memory().Meter()-meter)
		}
	}
}

// A machine over the database of another, with its configuration and registers, goes on as that one would have.
func TestOverGoesOn(t *testing.T) {
	w := settled(t)
	w.set(1, 2, 3, 4, 5, 6, 7, 8, 9, 10, 11, 12, 13, 14, 15)
	d := w.m.DB().Clone()
	was, meter := d.Clone(), d.Memory().Meter()
	m, e := monitor.Over(w.m.Config(), d, w.m.Registers())
	if m == nil || e != api.OK || m.DB() != d || m.Key() != w.m.Key() || m.Meter() != meter {
		t.Fatalf("P21.2: Over: %v, %d", m, e)
	}
	alike(t, "P21.2: Over", d, was)
	w.m = m
	w.same("P21.2: Over")
	w.wants(api.CodeInterrupted, 0, 10, 18, 5)
	w.takes([]uint32{16, 9}, []uint32{19, 0}, []uint32{20, 5}, []uint32{10, 5, 13})
	if d.Births() != 3 {
		t.Errorf("P21.2: the database that was handed in has had %d births", d.Births())
	}
}

// Registers are handed in by value; they may be any words.
func TestOverWithRegisters(t *testing.T) {
	memory, _ := mem.New(3, 1)
	r := [15]uint32{0xffffffff, 1, 14: 0x80000000}
	m, _ := monitor.Over(monitor.Config{Secure: 3, Insecure: 1}, pagedb.New(memory), r)
	r[3] = 7
	if m.Registers() != [15]uint32{0xffffffff, 1, 14: 0x80000000} {
		t.Errorf("P21.2: the registers are %#x", m.Registers())
	}
	if code := m.Smc(0); code != api.CodeCall {
		t.Errorf("P21.4: the call 0xffffffff: %d", code)
	}
}
