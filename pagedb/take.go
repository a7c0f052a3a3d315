package pagedb

import (
	"warden/api"
	"warden/entry"
)

// mostRefs: all pages but the space's own; no entry has room for more.
const mostRefs = api.MaxSecure - 1

// TakeSpace: two free pages become a space in the state Init and its first-level table. ErrPage (space, first), ErrArg (one page), ErrUsed (space, first). The space's page has its first three words, the table is zero; its birth is the number of births so far, which is one more from then on (ErrFull at MaxStreams, last of all).
func (d *DB) TakeSpace(space, first int) api.Errno {
	if bad := d.mayBear(space, first); bad != api.OK {
		return bad
	}
	d.lay(first, entry.Entry{Type: entry.First, Owner: space})
	d.lay(space, entry.Entry{Type: entry.Space, Owner: space, Refs: 1, State: entry.Init})
	d.memory.Write(frame(space), entry.SpaceFirst, uint32(first))
	d.memory.Write(frame(space), entry.SpaceBirth, d.words[0])
	// Its draws are 0 in a page that was wiped; but somebody may have written there since.
	d.memory.Write(frame(space), entry.SpaceDraws, 0)
	d.words[0]++
	return api.OK
}

// mayBear: what TakeSpace answers.
func (d *DB) mayBear(space, first int) api.Errno {
	s, badSpace := d.Entry(space)
	f, badFirst := d.Entry(first)
	switch {
	case badSpace != api.OK:
		return badSpace
	case badFirst != api.OK:
		return badFirst
	case space == first:
		return api.ErrArg
	case s.Type != entry.Free || f.Type != entry.Free:
		return api.ErrUsed
	case d.Births() >= api.MaxStreams:
		return api.ErrFull
	}
	return api.OK
}

// Take: a free page becomes one of a space (Thread, Second, Data or Spare: else ErrType). ErrPage (page), ErrOwner (no space), ErrUsed. The space owns one more.
func (d *DB) Take(page int, t entry.Type, space int) api.Errno {
	e, bad := d.Entry(page)
	switch {
	case bad != api.OK:
		return bad
	case t != entry.Thread && !turns(t):
		return api.ErrType
	case !d.ownsMore(space):
		return api.ErrOwner
	case e.Type != entry.Free:
		return api.ErrUsed
	}
	d.lay(page, entry.Entry{Type: t, Owner: space})
	d.count(space, 1)
	return api.OK
}

// turns: is it one of the types that a page of a space may change among?
func turns(t entry.Type) bool {
	return t == entry.Second || t == entry.Data || t == entry.Spare
}

// ownsMore: is it a space that may own one page more?
func (d *DB) ownsMore(space int) bool {
	return d.isSpace(space) && d.at(space).Refs < mostRefs
}

// count: a space owns so many more.
func (d *DB) count(space, more int) {
	e := d.at(space)
	e.Refs += more
	d.lay(space, e)
}

// Turn: a page of Second, Data or Spare becomes another one of these, of the same space; its words become 0. ErrPage, ErrType (either).
func (d *DB) Turn(page int, t entry.Type) api.Errno {
	e, bad := d.Entry(page)
	switch {
	case bad != api.OK:
		return bad
	case !turns(e.Type) || !turns(t):
		return api.ErrType
	}
	d.lay(page, entry.Entry{Type: t, Owner: e.Owner})
	d.wipe(page)
	return api.OK
}

// Give: a page becomes free and its words 0; its space owns one less. ErrPage, ErrFree, ErrHeld (a space that owns pages).
func (d *DB) Give(page int) api.Errno {
	e, bad := d.Entry(page)
	switch {
	case bad != api.OK:
		return bad
	case e.Type == entry.Free:
		return api.ErrFree
	case e.Type == entry.Space && e.Refs > 0:
		return api.ErrHeld
	}
	d.lay(page, entry.Entry{})
	d.wipe(page)
	// Entries that were loaded need not go together: an owner may be no space, so that it counts none, or a space that counts too few.
	if e.Type != entry.Space && d.at(e.Owner).Refs > 0 {
		d.count(e.Owner, -1)
	}
	return api.OK
}
