package model

import (
	"warden/api"
	"warden/regs"
)

// run: a thread that runs: its space, what it sees, its file, how much fuel is left.
type run struct {
	m     *Model
	owner int
	space *space
	sight sight
	file  regs.File
	left  int
}

func (m *Model) enter(page, a, b, c uint32, fuel int) (api.Code, uint32) {
	t, code := m.threadAt(page)
	switch {
	case code != api.CodeOK:
		return code, 0
	case t.entered:
		return api.CodeEntered, 0
	}
	return m.run(page, regs.Start(t.begins, a, b, c), fuel)
}

func (m *Model) resume(page uint32, fuel int) (api.Code, uint32) {
	t, code := m.threadAt(page)
	switch {
	case code != api.CodeOK:
		return code, 0
	case !t.entered:
		return api.CodeNotEntered, 0
	}
	return m.run(page, t.saved, fuel)
}

// run: of the thread in that page, from a file on. Only where it is interrupted anything of its file is left.
func (m *Model) run(page uint32, from regs.File, fuel int) (api.Code, uint32) {
	t, s := &m.pages[page].thread, m.spaceOf(page)
	r := run{m: m, owner: m.pages[page].owner, space: s, sight: window{m, s}, file: from, left: max(0, min(fuel, api.MaxFuel))}
	code, value := r.toItsEnd()
	t.entered, t.saved = false, regs.File{}
	if code == api.CodeInterrupted {
		t.entered, t.saved = true, r.file
	}
	return code, value
}

// toItsEnd: by an exit, a fault or an interrupt.
func (r *run) toItsEnd() (api.Code, uint32) {
	for r.left > 0 {
		next, ev := step(r.sight, r.file)
		switch {
		case ev.fault != 0:
			return api.CodeFault, ev.fault
		case !ev.calls:
			r.left--
		case cost(ev.number) > r.left:
			// It is not done: the file stands at the svc still.
			return api.CodeInterrupted, 0
		case ev.number == api.SvcExit:
			return api.CodeOK, next.R[0]
		default:
			r.left -= cost(ev.number)
		}
		r.file = next
		if ev.calls {
			r.file.R[0] = uint32(r.serve(ev.number))
		}
	}
	return api.CodeInterrupted, 0
}
