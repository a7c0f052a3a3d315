package enter

import (
	"warden/api"
	"warden/entry"
	"warden/pagedb"
	"warden/regs"
	"warden/space"
)

// thread: one whose space is final.
type thread struct {
	db          *pagedb.DB
	page, table int // its own, and that of its space's first-level table
	entered     bool
}

// threadAt: the thread that a word names. CodePage, CodeThread, CodeNotFinal.
func threadAt(d *pagedb.DB, w uint32) (thread, api.Code) {
	// The word is held against the number of pages as it stands, so that no bit of it is lost.
	if w >= uint32(d.Pages()) {
		return thread{}, api.CodePage
	}
	kept, _ := d.Entry(int(w))
	if kept.Type != entry.Thread {
		return thread{}, api.CodeThread
	}
	owner, _ := d.Entry(kept.Owner)
	if owner.State != entry.Final {
		return thread{}, api.CodeNotFinal
	}
	table, e := space.Table(d, kept.Owner)
	if e != api.OK {
		// In no valid state: a space without a table was never built to its end.
		return thread{}, api.CodeNotFinal
	}
	return thread{db: d, page: int(w), table: table, entered: kept.Entered}, api.CodeOK
}

// begins: the address of its first instruction.
func (t thread) begins() uint32 { return t.word(entry.ThreadEntry) }

// saved: the file with which it was interrupted. ErrContext.
func (t thread) saved() (regs.File, api.Errno) {
	var words [regs.PackWords]uint32
	for i := range words {
		words[i] = t.word(entry.ThreadSaved + i)
	}
	return regs.Unpack(words[:])
}

// settle: what the thread's page and its entry keep of a run that has ended.
func (t thread) settle(words [regs.PackWords]uint32, entered bool) {
	for i, w := range words {
		t.db.Memory().Write(t.frame(), entry.ThreadSaved+i, w)
	}
	t.db.SetEntered(t.page, entered)
}

// word: of its page, at an offset that there is.
func (t thread) word(off int) uint32 {
	w, _ := t.db.Memory().Read(t.frame(), off)
	return w
}

func (t thread) frame() api.Frame { return api.Frame{Secure: true, Page: t.page} }
