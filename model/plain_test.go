package model_test

import (
	"slices"

	"warden/api"
	"warden/entry"
	"warden/model"
	"warden/pagedb"
	"warden/regs"
	"warden/walk"
)

// plain: a machine's pages, read word by word and bit by bit as chapters 8, 9 and 11 lay them.
type plain struct{ *pagedb.DB }

func (p plain) word(page, off int) uint32 { return p.Memory().Peek(secure(page), off) }

func (p plain) page(page int) model.Page {
	e, _ := p.Entry(page)
	told := model.Page{Type: e.Type, Owner: e.Owner}
	if e.Type == entry.Data {
		for off := range 1024 {
			told.Words = append(told.Words, p.word(page, off))
		}
	}
	return told
}

func (p plain) thread(page int) model.Thread {
	e, _ := p.Entry(page)
	told := model.Thread{Owner: e.Owner, Entry: p.word(page, 0), Entered: e.Entered}
	if e.Entered {
		for r := range 15 {
			told.Saved.R[r] = p.word(page, 1+r)
		}
		told.Saved.PC = p.word(page, 16)
		flags := p.word(page, 17)
		told.Saved.Z, told.Saved.N, told.Saved.L = flags == 1, flags&2 != 0, flags&4 != 0
	}
	return told
}

func (p plain) space(page int) model.Space {
	e, _ := p.Entry(page)
	told := model.Space{State: e.State, Birth: int(p.word(page, 1)), Draws: int(p.word(page, 2))}
	for i := range told.Measurement {
		told.Measurement[i] = p.word(page, 3+i)
	}
	if e.State == entry.Stopped {
		return told
	}
	first := int(p.word(page, 0))
	for index := range 256 {
		if w := p.word(first, index); w != 0 {
			told.Tables = append(told.Tables, model.Table{Index: index, Page: int(w / 256)})
			told.Maps = append(told.Maps, p.maps(uint32(index), int(w/256))...)
		}
	}
	return told
}

// maps: those of one table.
func (p plain) maps(index uint32, page int) (all []walk.At) {
	for j := range uint32(1024) {
		if w := p.word(page, int(j)); w != 0 {
			all = append(all, walk.At{VA: index<<22 | j<<12, Map: walk.Map{Frame: api.Frame{Secure: w&2 != 0, Page: int(w / 256)}, Write: w&4 != 0, Exec: w&8 != 0}})
		}
	}
	return all
}

func samePage(a, b model.Page) bool {
	return a.Type == b.Type && a.Owner == b.Owner && slices.Equal(a.Words, b.Words)
}

func sameSpace(a, b model.Space) bool {
	return a.State == b.State && a.Birth == b.Birth && a.Draws == b.Draws && a.Measurement == b.Measurement && slices.Equal(a.Tables, b.Tables) && slices.Equal(a.Maps, b.Maps)
}

// samePages: what the model tells of each page is what the machine's words say.
func (w world) samePages(what string) {
	w.Helper()
	p := plain{w.m.DB()}
	for page := range p.Pages() {
		e, _ := p.Entry(page)
		if got, err := w.n.Page(page); err != api.OK || !samePage(got, p.page(page)) {
			w.Fatalf("P22.3: %s: Page(%d): a %s of %d with %d words, %d", what, page, entry.TypeName(got.Type), got.Owner, len(got.Words), err)
		}
		thread, threadErr := model.Thread{}, api.ErrType
		if e.Type == entry.Thread {
			thread, threadErr = p.thread(page), api.OK
		}
		if got, err := w.n.Thread(page); got != thread || err != threadErr {
			w.Fatalf("P22.3: %s: Thread(%d): %+v, %d; want %+v, %d", what, page, got, err, thread, threadErr)
		}
		space, spaceErr := model.Space{}, api.ErrType
		if e.Type == entry.Space {
			space, spaceErr = p.space(page), api.OK
		}
		if got, err := w.n.Space(page); !sameSpace(got, space) || err != spaceErr {
			w.Fatalf("P22.3: %s: Space(%d): %+v, %d; want %+v, %d", what, page, got, err, space, spaceErr)
		}
	}
}

// file: any that may be.
func (c chance) file() regs.File {
	var f regs.File
	for r := range f.R {
		f.R[r] = c.word(c.Uint32(), c.Uint32(), c.Uint32()%70, 0, 1, 0x80000000, 0xffffffff, 0x1000, 0x1800, 0x2000+4*(c.Uint32()%0x400), 0x2f00, 0x3ffc, 0x4100)
	}
	return regs.Compare(f, c.Uint32()%2, c.Uint32()%2)
}
