package life

import (
	"warden/api"
	"warden/entry"
	"warden/pagedb"
)

// tenant: what is kept of a page that is to be removed, in its database.
type tenant struct {
	db   *pagedb.DB
	kept entry.Entry
}

// rules: for each type what stands against removing a page of it; CodeOK, if nothing does. Tables, and what they map, may go only when nobody follows them any more; a spare page is mapped nowhere.
func rules() map[entry.Type]func(tenant) api.Code {
	return map[entry.Type]func(tenant) api.Code{
		entry.Free:   tenant.asFree,
		entry.Space:  tenant.asSpace,
		entry.Thread: tenant.asPart,
		entry.First:  tenant.asPart,
		entry.Second: tenant.asPart,
		entry.Data:   tenant.asPart,
		entry.Spare:  tenant.asSpare,
	}
}

func (t tenant) asFree() api.Code { return api.CodeFree }

func (t tenant) asSpare() api.Code { return api.CodeOK }

func (t tenant) asSpace() api.Code {
	switch {
	case t.kept.State != entry.Stopped:
		return api.CodeNotStopped
	case t.kept.Refs > 0:
		return api.CodeHeld
	}
	return api.CodeOK
}

// asPart: of a page without which its space can't go on.
func (t tenant) asPart() api.Code {
	owner, _ := t.db.Entry(t.kept.Owner)
	if owner.State != entry.Stopped {
		return api.CodeNotStopped
	}
	return api.CodeOK
}
