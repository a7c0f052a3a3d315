package pagedb

import (
	"warden/api"
	"warden/entry"
)

// SetState: of a space: Init to Final, Init or Final or Stopped to Stopped: else ErrState. ErrPage, ErrType.
func (d *DB) SetState(space int, s entry.State) api.Errno {
	e, bad := d.typed(space, entry.Space)
	switch {
	case bad != api.OK:
		return bad
	case s != entry.Stopped && (s != entry.Final || e.State != entry.Init):
		return api.ErrState
	}
	e.State = s
	d.lay(space, e)
	return api.OK
}

// SetEntered: of a thread. ErrPage, ErrType.
func (d *DB) SetEntered(thread int, on bool) api.Errno {
	e, bad := d.typed(thread, entry.Thread)
	if bad != api.OK {
		return bad
	}
	e.Entered = on
	d.lay(thread, e)
	return api.OK
}

// typed: the entry of a page, which must be a t. ErrPage, ErrType.
func (d *DB) typed(page int, t entry.Type) (entry.Entry, api.Errno) {
	e, bad := d.Entry(page)
	if bad == api.OK && e.Type != t {
		return entry.Entry{}, api.ErrType
	}
	return e, bad
}
