package model_test

import (
	"testing"

	"warden/api"
	"warden/model"
	"warden/monitor"
	"warden/pagedb"
	"warden/valid"
)

// harm: what breaks a clause of the settled machine's state.
type harm struct {
	clause int
	does   func(d *pagedb.DB) *pagedb.DB
}

func harms() []harm {
	return []harm{
		{1, entries(9, 0x000a0011, 3)}, {2, laid(13, 5, 1)}, {3, entries(4, 0x00020005, 0)}, {4, entries(0, 0x00000021, 7)}, {5, laid(0, 1, 2)}, {5, laid(0, 2, 4097)},
		{6, laid(9, 3, 1)}, {6, laid(0, 1023, 1)}, {7, laid(0, 0, 2)}, {8, laid(1, 5, 1)}, {9, laid(2, 9, 3)}, {10, laid(2, 1, 0)}, {11, laid(6, 1, 1)}, {12, laid(7, 0, 1)},
	}
}

// A machine that isn't valid any more, by what somebody wrote into its memory, has no model; when that is mended, it has one again.
func TestOfHarmedMachines(t *testing.T) {
	some := 0
	for _, h := range harms() {
		w := settled(t)
		was := w.m.DB().Clone()
		if d := h.does(w.m.DB()); d != w.m.DB() {
			continue // another database: no machine stands over it
		}
		some++
		if clause, _ := valid.Broken(w.m.DB()); clause != h.clause {
			t.Fatalf("the clause %d is broken; want %d", clause, h.clause)
		}
		harmed := w.m.DB().Clone()
		if n, e := model.Of(w.m); n != nil || e != api.ErrBroken {
			t.Errorf("P22.4: Of a machine in which not %s: %v, %d", valid.Says(h.clause), n, e)
		}
		if !w.m.DB().Memory().Same(harmed.Memory()) {
			t.Error("P22.4: Of changes a word")
		}
		for page := range was.Pages() {
			words, _ := was.Memory().Page(secure(page))
			w.m.DB().Memory().Lay(secure(page), words)
		}
		w.same("P22.4: mended")
	}
	if some < 10 {
		t.Errorf("%d harms alone", some)
	}
}

// Entries that don't go together can't be written past a machine's face but by the database's own calls.
func TestOfHarmedEntries(t *testing.T) {
	for _, does := range []func(d *pagedb.DB) api.Errno{
		func(d *pagedb.DB) api.Errno { return d.SetEntered(6, true) },
		func(d *pagedb.DB) api.Errno { return d.Take(13, 5, 0) },
		func(d *pagedb.DB) api.Errno { return d.Give(2) },
		func(d *pagedb.DB) api.Errno { return d.SetState(9, 2) },
		func(d *pagedb.DB) api.Errno { return d.Turn(4, 6) },
	} {
		w := settled(t)
		if e := does(w.m.DB()); e != api.OK {
			t.Fatal(e)
		}
		clause, _ := valid.Broken(w.m.DB())
		if n, e := model.Of(w.m); (clause == 0) != (e == api.OK) || (clause == 0) != (n != nil) {
			t.Errorf("P22.4: Of a machine in which not %s: %v, %d", valid.Says(clause), n, e)
		}
	}
}

// Of goes by the words as they stand, whoever wrote them; registers, configuration and births are the machine's own.
func TestOfGoesByTheWords(t *testing.T) {
	w := settled(t)
	w.set(1, 2, 3, 4, 5, 6, 7, 8, 9, 10, 11, 12, 13, 14, 15)
	memory := w.m.DB().Memory()
	memory.Write(insecure(1), 8, 9)
	memory.Write(secure(4), 9, 10)
	memory.Write(secure(2), 700, 5)
	memory.Write(secure(5), 16, 0x2000)
	memory.Write(secure(0), 2, 3)
	memory.Write(secure(0), 1, 1)
	memory.Write(secure(9), 1, 0)
	w.n = read(t, w.m)
	w.same("P22.4: words past the face")
	if s := w.space(0); s.Draws != 3 || s.Birth != 1 || len(s.Maps) != 5 {
		t.Errorf("P22.4: %+v", s)
	}
	if v, _ := w.n.Read(1, 8); v != 9 || w.n.Registers()[14] != 15 {
		t.Errorf("P22.4: %d, %v", v, w.n.Registers())
	}
	w.wants(api.CodeFault, api.FaultFetch, 100, 18, 5)
	w.takes([]uint32{19, 9}, []uint32{20, 12}, []uint32{10, 12, 13})
	if s := w.space(12); s.Birth != 2 {
		t.Errorf("P22.4: the birth %d", s.Birth)
	}
}

// The two go their own ways, and Of changes nothing: neither a word, nor an entry, nor a register.
func TestOfGoesItsOwnWay(t *testing.T) {
	w := settled(t)
	twin := w.m.Clone()
	first, second := read(t, w.m), read(t, w.m)
	w.same("P22.4: Of")
	if !twin.DB().Memory().Same(w.m.DB().Memory()) || twin.Registers() != w.m.Registers() {
		t.Fatal("P22.4: Of changes the machine")
	}
	first.Do(19, 0, 0, 0, 0, 0)
	first.Write(1, 1, 1)
	first.Do(20, 3, 0, 0, 0, 0)
	first.SetRegister(9, 9)
	parts(t, second, read(t, w.m), "")
	w.m.Do(18, 5, 0, 0, 0, 100)
	w.m.Do(16, 9, 0, 0, 0, 0)
	w.m.Write(0, 0, 77)
	w.m.SetRegister(3, 3)
	w.m.DB().Memory().Write(secure(3), 8, 8)
	parts(t, second, read(t, twin), "")
	parts(t, first, second, "register 2")
}

// A model of a machine over a database goes on as that machine does.
func TestOfAnOverGoesOn(t *testing.T) {
	w := settled(t)
	w.set(9, 8, 7)
	w = w.over(w.m.DB().Clone())
	w.wants(api.CodeInterrupted, 0, 10, 18, 5)
	w.takes([]uint32{16, 9}, []uint32{19, 0}, []uint32{20, 5}, []uint32{10, 5, 13})
}

// Of a machine that has had no calls: New's.
func TestOfJustBooted(t *testing.T) {
	for n := 1; n <= 64; n++ {
		c := config(n, 65-n)
		m, _ := monitor.New(c)
		parts(t, read(t, m), made(t, c), "")
	}
}
