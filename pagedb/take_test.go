package pagedb_test

import (
	"fmt"
	"slices"
	"testing"

	"warden/api"
	"warden/entry"
	"warden/pagedb"
)

// laid: of every type a page, the thread entered; two spaces, one of them final; the first and the last page are free.
func laid(t *testing.T) (*pagedb.DB, *plain) {
	t.Helper()
	d, p := both(t, 10)
	for _, space := range []int{3, 7} {
		errno(t, "TakeSpace", d.TakeSpace(space, space+1), p.takeSpace(space, space+1))
	}
	for page, kind := range map[int]entry.Type{1: entry.Thread, 2: entry.Second, 5: entry.Data, 6: entry.Spare} {
		errno(t, "Take", d.Take(page, kind, 3), p.take(page, kind, 3))
	}
	errno(t, "SetEntered(1, true)", d.SetEntered(1, true), p.setEntered(1, true))
	errno(t, "SetState(7, Final)", d.SetState(7, entry.Final), p.setState(7, entry.Final))
	fillAll(d, p)
	return d, p
}

func TestExampleTwoToFour(t *testing.T) {
	d := pagedb.New(memory(t, 4))
	m := d.Memory()
	touched := m.Meter()
	errno(t, "P12.3: TakeSpace(1, 3)", d.TakeSpace(1, 3), api.OK)
	if m.Meter()-touched != 3 {
		t.Errorf("P12.3: TakeSpace touches %d words", m.Meter()-touched)
	}
	entryIs(t, d, 1, entry.Entry{Type: entry.Space, Owner: 1, Refs: 1, State: entry.Init})
	entryIs(t, d, 3, entry.Entry{Type: entry.First, Owner: 1})
	if !slices.Equal(d.Owned(1), []int{3}) || d.Births() != 1 {
		t.Errorf("P12.3: owned %d, %d births", d.Owned(1), d.Births())
	}
	if w := [3]uint32{m.Peek(secure(1), 0), m.Peek(secure(1), 1), m.Peek(secure(1), 2)}; w != [3]uint32{3, 0, 0} {
		t.Errorf("P12.3: the words of the space are %d", w)
	}
	errno(t, "P12.3: TakeSpace(1, 0)", d.TakeSpace(1, 0), api.ErrUsed)
	errno(t, "P12.3: TakeSpace(0, 0)", d.TakeSpace(0, 0), api.ErrArg)
	errno(t, "P12.3: TakeSpace(0, 3)", d.TakeSpace(0, 3), api.ErrUsed)
	errno(t, "P12.3: TakeSpace(4, 4)", d.TakeSpace(4, 4), api.ErrPage)
	errno(t, "P12.3: TakeSpace(1, 1)", d.TakeSpace(1, 1), api.ErrArg)

	errno(t, "P12.4: Take(0, Data, 1)", d.Take(0, entry.Data, 1), api.OK)
	entryIs(t, d, 1, entry.Entry{Type: entry.Space, Owner: 1, Refs: 2, State: entry.Init})
	if !slices.Equal(d.Owned(1), []int{0, 3}) {
		t.Errorf("P12.4: owned %d", d.Owned(1))
	}
	errno(t, "P12.4: Take(0, Data, 1)", d.Take(0, entry.Data, 1), api.ErrUsed)
	errno(t, "P12.4: Take(2, Data, 3)", d.Take(2, entry.Data, 3), api.ErrOwner)
	errno(t, "P12.4: Take(2, First, 9)", d.Take(2, entry.First, 9), api.ErrType)
	errno(t, "P12.4: Take(9, First, 9)", d.Take(9, entry.First, 9), api.ErrPage)
	errno(t, "P12.4: Take(0, Space, 1)", d.Take(0, entry.Space, 1), api.ErrType)

	fill(m, secure(0))
	errno(t, "P12.6: Give(1)", d.Give(1), api.ErrHeld)
	errno(t, "P12.5: Turn(0, Spare)", d.Turn(0, entry.Spare), api.OK)
	entryIs(t, d, 0, entry.Entry{Type: entry.Spare, Owner: 1})
	if !blank(m, 0) {
		t.Error("P12.5: a page that is turned isn't wiped")
	}
	errno(t, "P12.5: Turn(3, Data)", d.Turn(3, entry.Data), api.ErrType)
	errno(t, "P12.5: Turn(0, Thread)", d.Turn(0, entry.Thread), api.ErrType)
	errno(t, "P12.6: Give(0)", d.Give(0), api.OK)
	errno(t, "P12.6: Give(3)", d.Give(3), api.OK)
	if len(d.Owned(1)) != 0 {
		t.Errorf("P12.6: owned %d", d.Owned(1))
	}
	errno(t, "P12.6: Give(1)", d.Give(1), api.OK)
	errno(t, "P12.6: Give(1)", d.Give(1), api.ErrFree)
	if d.Births() != 1 || d.Free() != 4 || !blank(m, 1) {
		t.Errorf("P12.6: %d births, %d free", d.Births(), d.Free())
	}
}

// TestEveryCall: each call with all pages and numbers that are none, all types and states and those beside them, from one state; words stand in every page.
func TestEveryCall(t *testing.T) {
	d, p := laid(t)
	kinds := []entry.Type{-1 << 40, -1, 0, 1, 2, 3, 4, 5, 6, 7, 8, 1<<32 + 5}
	try := func(what string, call func(d *pagedb.DB) api.Errno, sentence func(p *plain) api.Errno) {
		t.Helper()
		c, q := d.Clone(), p.clone()
		errno(t, what, call(c), sentence(q))
		alike(t, what, c, q)
	}
	pages := around(10)
	for _, a := range pages {
		for _, b := range pages {
			try(fmt.Sprintf("P12.3: TakeSpace(%d, %d)", a, b), func(d *pagedb.DB) api.Errno { return d.TakeSpace(a, b) }, func(p *plain) api.Errno { return p.takeSpace(a, b) })
		}
		for _, k := range kinds {
			for _, b := range []int{-1, 0, 1, 2, 3, 4, 5, 6, 7, 8, 9, 10, 1<<32 + 3} {
				try(fmt.Sprintf("P12.4: Take(%d, %d, %d)", a, k, b), func(d *pagedb.DB) api.Errno { return d.Take(a, k, b) }, func(p *plain) api.Errno { return p.take(a, k, b) })
			}
			try(fmt.Sprintf("P12.5: Turn(%d, %d)", a, k), func(d *pagedb.DB) api.Errno { return d.Turn(a, k) }, func(p *plain) api.Errno { return p.turn(a, k) })
			s := entry.State(k)
			try(fmt.Sprintf("P12.7: SetState(%d, %d)", a, s), func(d *pagedb.DB) api.Errno { return d.SetState(a, s) }, func(p *plain) api.Errno { return p.setState(a, s) })
		}
		for _, on := range []bool{false, true} {
			try(fmt.Sprintf("P12.7: SetEntered(%d, %t)", a, on), func(d *pagedb.DB) api.Errno { return d.SetEntered(a, on) }, func(p *plain) api.Errno { return p.setEntered(a, on) })
		}
		try(fmt.Sprintf("P12.6: Give(%d)", a), func(d *pagedb.DB) api.Errno { return d.Give(a) }, func(p *plain) api.Errno { return p.give(a) })
	}
}

// TestWordsPastTheCalls: what somebody wrote into free pages stays there, but for the three words.
func TestWordsPastTheCalls(t *testing.T) {
	d := pagedb.New(memory(t, 4))
	m := d.Memory()
	for page := range 4 {
		fill(m, secure(page))
	}
	errno(t, "TakeSpace(2, 1)", d.TakeSpace(2, 1), api.OK)
	errno(t, "Take(0, Data, 2)", d.Take(0, entry.Data, 2), api.OK)
	for page := range 4 {
		for off := range 1024 {
			want := 0x80000001 + uint32(off)
			if page == 2 && off < 3 {
				want = [3]uint32{1, 0, 0}[off]
			}
			if got := m.Peek(secure(page), off); got != want {
				t.Fatalf("P12.3: the word %d of page %d is %#x; want %#x", off, page, got, want)
			}
		}
	}
	touched := m.Meter()
	errno(t, "Give(1)", d.Give(1), api.OK)
	if !blank(m, 1) || m.Meter()-touched != 1024 {
		t.Errorf("P12.6: a page that is given back: blank %t, %d words touched", blank(m, 1), m.Meter()-touched)
	}
	touched = m.Meter()
	errno(t, "Turn(0, Data)", d.Turn(0, entry.Data), api.OK)
	if !blank(m, 0) || m.Meter()-touched != 1024 {
		t.Errorf("P12.5: a page that is turned: blank %t, %d words touched", blank(m, 0), m.Meter()-touched)
	}
}

func TestBirths(t *testing.T) {
	d, p := both(t, 3)
	for birth := range 64 {
		errno(t, fmt.Sprintf("P12.3: TakeSpace, birth %d", birth), d.TakeSpace(2, 0), api.OK)
		p.takeSpace(2, 0)
		if got := d.Memory().Peek(secure(2), entry.SpaceBirth); got != uint32(birth) || d.Births() != birth+1 {
			t.Fatalf("P12.3: the birth %d says %d; births are %d", birth, got, d.Births())
		}
		for _, page := range []int{0, 2} {
			errno(t, "P12.6: Give", d.Give(page), p.give(page))
		}
	}
	errno(t, "P12.3: the 65th TakeSpace", d.TakeSpace(2, 0), api.ErrFull)
	alike(t, "births at their end", d, p)
	errno(t, "P12.3: TakeSpace(2, 2)", d.TakeSpace(2, 2), api.ErrArg)
	errno(t, "P12.3: TakeSpace(3, 2)", d.TakeSpace(3, 2), api.ErrPage)
	errno(t, "P12.3: TakeSpace(2, 3)", d.TakeSpace(2, 3), api.ErrPage)
	alike(t, "births at their end", d, p)
}

// TestUsedAheadOfFull: at the last birth a page that isn't free is told first.
func TestUsedAheadOfFull(t *testing.T) {
	d, e := pagedb.Load(memory(t, 4), []uint32{64, 0x00000011, 1, 0x00000003, 0, 0, 0, 0, 0})
	errno(t, "Load", e, api.OK)
	errno(t, "P12.3: TakeSpace(0, 2)", d.TakeSpace(0, 2), api.ErrUsed)
	errno(t, "P12.3: TakeSpace(2, 1)", d.TakeSpace(2, 1), api.ErrUsed)
	errno(t, "P12.3: TakeSpace(2, 3)", d.TakeSpace(2, 3), api.ErrFull)
	errno(t, "P12.4: Take(2, Data, 0)", d.Take(2, entry.Data, 0), api.OK)
}

// TestMostRefs: of 64 pages one space may own 63; a space that was loaded with as many takes no more, whatever it owns.
func TestMostRefs(t *testing.T) {
	d, p := both(t, 64)
	errno(t, "TakeSpace(63, 0)", d.TakeSpace(63, 0), p.takeSpace(63, 0))
	for page := 1; page < 63; page++ {
		errno(t, fmt.Sprintf("P12.4: Take(%d, Spare, 63)", page), d.Take(page, entry.Spare, 63), api.OK)
		p.take(page, entry.Spare, 63)
	}
	alike(t, "63 pages of one space", d, p)
	whole(t, "63 pages of one space", d)
	if e, _ := d.Entry(63); e.Refs != 63 {
		t.Errorf("P12.4: Refs are %d", e.Refs)
	}
	errno(t, "P12.4: Take(5, Spare, 63)", d.Take(5, entry.Spare, 63), api.ErrOwner)
	errno(t, "P12.4: Take(64, Spare, 63)", d.Take(64, entry.Spare, 63), api.ErrPage)

	words := []uint32{1, 0x00000011, 63, 0x00010011, 62, 0, 0, 0, 0}
	l, e := pagedb.Load(memory(t, 4), words)
	errno(t, "Load", e, api.OK)
	errno(t, "P12.4: Take(2, Data, 0)", l.Take(2, entry.Data, 0), api.ErrOwner)
	errno(t, "P12.4: Take(0, Data, 0)", l.Take(0, entry.Data, 0), api.ErrOwner)
	errno(t, "P12.4: Take(0, First, 0)", l.Take(0, entry.First, 0), api.ErrType)
	if !slices.Equal(l.Words(), words) {
		t.Errorf("P12.4: a refusal changes the words: %#x", l.Words())
	}
	errno(t, "P12.4: Take(2, Data, 1)", l.Take(2, entry.Data, 1), api.OK)
	errno(t, "P12.4: Take(3, Data, 1)", l.Take(3, entry.Data, 1), api.ErrOwner)
	if !slices.Equal(l.Words(), []uint32{1, 0x00000011, 63, 0x00010011, 63, 0x00010005, 0, 0, 0}) {
		t.Errorf("P12.4: Words() = %#x", l.Words())
	}
}

// TestGiveLoose: pages whose owner is no space, counts none, or is a space that another space is of.
func TestGiveLoose(t *testing.T) {
	d, e := pagedb.Load(memory(t, 7), []uint32{
		3,
		0x00010005, 0, // 0: data of 1, which is data
		0x00010005, 0, // 1: data of itself
		0x00020011, 0, // 2: a space that counts none
		0x00020006, 0, // 3: a spare page of 2
		0x00050021, 0, // 4: a space of 5
		0x00050031, 2, // 5: a space that counts two
		0x00050102, 0, // 6: a thread of 5
	})
	errno(t, "Load", e, api.OK)
	errno(t, "P12.6: Give(5)", d.Give(5), api.ErrHeld)
	for _, page := range []int{0, 1, 3, 2, 4} {
		errno(t, fmt.Sprintf("P12.6: Give(%d)", page), d.Give(page), api.OK)
	}
	if w := d.Words(); !slices.Equal(w, []uint32{3, 0, 0, 0, 0, 0, 0, 0, 0, 0, 0, 0x00050031, 2, 0x00050102, 0}) {
		t.Errorf("P12.6: Words() = %#x", w)
	}
	errno(t, "P12.6: Give(6)", d.Give(6), api.OK)
	entryIs(t, d, 5, entry.Entry{Type: entry.Space, Owner: 5, Refs: 1, State: entry.Stopped})
}

// TestGiveEmptySpace: a space that counts none goes, though pages are of it still; these own nothing and are given back all the same.
func TestGiveEmptySpace(t *testing.T) {
	d, e := pagedb.Load(memory(t, 2), []uint32{3, 0x00000021, 0, 0x00000004, 0})
	errno(t, "Load", e, api.OK)
	errno(t, "P12.6: Give(0)", d.Give(0), api.OK)
	if len(d.Owned(0)) != 0 || d.Free() != 1 {
		t.Errorf("P12.6: owned %d, %d free", d.Owned(0), d.Free())
	}
	errno(t, "P12.5: Turn(1, Spare)", d.Turn(1, entry.Spare), api.OK)
	errno(t, "P12.6: Give(1)", d.Give(1), api.OK)
	if w := d.Words(); !slices.Equal(w, []uint32{3, 0, 0, 0, 0}) {
		t.Errorf("P12.6: Words() = %#x", w)
	}
}

// TestStateIsNotAsked: a space that is final or stopped takes pages and gives them back.
func TestStateIsNotAsked(t *testing.T) {
	for _, s := range []entry.State{entry.Final, entry.Stopped} {
		d, p := both(t, 4)
		errno(t, "TakeSpace(0, 1)", d.TakeSpace(0, 1), p.takeSpace(0, 1))
		errno(t, "SetState", d.SetState(0, s), p.setState(0, s))
		errno(t, "P12.4: Take(2, Thread, 0)", d.Take(2, entry.Thread, 0), api.OK)
		p.take(2, entry.Thread, 0)
		alike(t, entry.StateName(s), d, p)
		for _, page := range []int{1, 2, 0} {
			errno(t, fmt.Sprintf("P12.6: Give(%d)", page), d.Give(page), api.OK)
			p.give(page)
		}
		alike(t, entry.StateName(s), d, p)
	}
}
