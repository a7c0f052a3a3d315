package svc

import (
	"warden/api"
	"warden/entry"
	"warden/pagedb"
	"warden/regs"
	"warden/space"
)

// caller: the thread that calls, by what all calls need of it: each kind of call embeds it.
type caller struct {
	db           *pagedb.DB
	space, table int // pages: its space's, and that of the space's first-level table
	file         regs.File
}

// answer: how a call ends: the file in which the thread goes on, or an exit with its value.
type answer struct {
	file  regs.File
	exit  bool
	value uint32
}

// calling: the caller in that page. ErrType, if none is there that may run.
func calling(d *pagedb.DB, thread int, f regs.File) (caller, api.Errno) {
	t, _ := d.Entry(thread)
	if t.Type != entry.Thread {
		return caller{}, api.ErrType
	}
	s, _ := d.Entry(t.Owner)
	if s.Type != entry.Space || s.State != entry.Final {
		return caller{}, api.ErrType
	}
	table, e := space.Table(d, t.Owner)
	if e != api.OK {
		return caller{}, api.ErrType
	}
	return caller{db: d, space: t.Owner, table: table, file: f}, api.OK
}

// goOn: the thread goes on with that code.
func (c caller) goOn(code api.Code) answer {
	c.file.R[0] = uint32(code)
	return answer{file: c.file}
}

// tell: it goes on, told eight words.
func (c caller) tell(words [8]uint32) answer {
	copy(c.file.R[1:], words[:])
	return c.goOn(api.CodeOK)
}

// measurement: of the thread's space, which is fixed, as the space is final.
func (c caller) measurement() [8]uint32 {
	var words [8]uint32
	for i := range words {
		words[i] = c.word(entry.SpaceMeasure + i)
	}
	return words
}

// word: of the space's page, at an offset that there is.
func (c caller) word(off int) uint32 {
	w, _ := c.db.Memory().Read(secure(c.space), off)
	return w
}

func secure(page int) api.Frame { return api.Frame{Secure: true, Page: page} }
