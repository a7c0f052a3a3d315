package space_test

import (
	"math/rand"
	"testing"

	"warden/api"
	"warden/entry"
	"warden/pagedb"
	"warden/walk"
)

// loose: entries that don't go together, mostly of one space, over pages of any words.
type loose struct {
	world
	*rand.Rand
	n int
}

func (l *loose) entry(page int) entry.Entry {
	kinds := []entry.Type{entry.Free, entry.Thread, entry.First, entry.First, entry.Second, entry.Second, entry.Second, entry.Data, entry.Spare}
	e := entry.Entry{Type: kinds[l.Intn(len(kinds))], Owner: l.n}
	if page == l.n || l.Intn(12) == 0 {
		e.Type, e.State = entry.Space, entry.State(1+l.Intn(3))
	}
	if l.Intn(6) == 0 {
		e.Owner = l.Intn(l.d.Pages())
	}
	if e.Type == entry.Free {
		e.Owner = 0
	}
	return e
}

// descriptor: mostly of a page that there is, and mostly one.
func (l *loose) descriptor(lows ...uint32) uint32 {
	if l.Intn(12) == 0 {
		return l.Uint32() >> l.Intn(32)
	}
	return uint32(l.Intn(l.d.Pages()+2))<<8 | lows[l.Intn(len(lows))]
}

func (l *loose) fill(page int) {
	e, _ := l.d.Entry(page)
	for range 30 {
		switch e.Type {
		case entry.First:
			l.lay(page, l.Intn(256)>>l.Intn(9), l.descriptor(1, 1, 1, 1, 3, 0))
		default:
			l.lay(page, l.Intn(1024)>>l.Intn(11), l.descriptor(1, 3, 5, 7, 9, 11, 13, 15, 17))
		}
	}
	if e.Type == entry.Space {
		l.lay(page, entry.SpaceFirst, uint32(l.Intn(l.d.Pages()+2)))
	}
}

// ask: any call, at arguments that mostly are right.
func (l *loose) ask() {
	n, va := l.n, uint32(l.Intn(256)>>l.Intn(9))<<22|uint32(l.Intn(1024)>>l.Intn(11))<<12|uint32(l.Intn(1024))<<2
	if l.Intn(10) == 0 {
		n = l.Intn(l.d.Pages()+4) - 2
	}
	if l.Intn(10) == 0 {
		va = l.Uint32()
	}
	switch l.Intn(7) {
	case 0:
		l.Table(n)
	case 1:
		l.AddTable(n, l.Intn(260)>>l.Intn(9)-l.Intn(20)/19, l.Intn(l.d.Pages()+3)-1)
	case 2:
		l.Slot(n, va)
	case 3:
		f := api.Frame{Secure: l.Intn(2) == 0, Page: l.Intn(70) - 2}
		l.Put(n, va, walk.Map{Frame: f, Write: l.Intn(2) == 0, Exec: l.Intn(3) == 0})
	case 4:
		l.Cut(n, va)
	case 5:
		l.At(n, va)
	case 6:
		if l.Intn(8) == 0 {
			l.List(n)
		}
	}
}

func TestLooseStates(t *testing.T) {
	seen := map[answer]int{}
	for seed := range int64(150) {
		r := rand.New(rand.NewSource(14000 + seed))
		l := &loose{over(t, pagedb.New(machine(t, 1+r.Intn(12), 1+r.Intn(4)))), r, 0}
		l.seen, l.n = seen, r.Intn(l.d.Pages())
		for page := range l.d.Pages() {
			l.world = l.with(page, l.entry(page))
			l.fill(page)
		}
		for k := range 300 {
			if k%100 == 0 {
				l.fill(l.n)
			}
			l.ask()
		}
	}
	errors := map[string][]api.Errno{
		"Table":    {api.OK, api.ErrPage, api.ErrType, api.ErrState},
		"AddTable": {api.OK, api.ErrPage, api.ErrType, api.ErrState, api.ErrRange, api.ErrSlot},
		"Slot":     {api.OK, api.ErrPage, api.ErrType, api.ErrState, api.ErrVA, api.ErrNoTable, api.ErrSlot},
		"Put":      {api.OK, api.ErrPage, api.ErrType, api.ErrState, api.ErrVA, api.ErrNoTable, api.ErrSlot, api.ErrRange, api.ErrArg},
		"Cut":      {api.OK, api.ErrPage, api.ErrType, api.ErrState, api.ErrVA, api.ErrNoTable, api.ErrNone},
		"At":       {api.OK, api.ErrPage, api.ErrType, api.ErrState, api.ErrVA, api.ErrNoTable, api.ErrNone, api.ErrTable},
		"List":     {api.OK, api.ErrPage, api.ErrType, api.ErrState},
	}
	for call, list := range errors {
		for _, e := range list {
			if seen[answer{call, e}] == 0 {
				t.Errorf("%s never answers %d in this test", call, e)
			}
		}
	}
}
