package svc

import (
	"warden/api"
	"warden/entry"
)

// drawing: a call for the next draw of the space's stream.
type drawing struct {
	caller
	streams [][]uint32
}

func (d drawing) draw() answer {
	birth, taken := d.word(entry.SpaceBirth), d.word(entry.SpaceDraws)
	d.file.R[1] = Draw(d.streams, int(birth), int(taken))
	// No machine's stream has more draws than these, so that to count on would tell nothing.
	if taken < api.MaxDraws {
		d.db.Memory().Write(secure(d.space), entry.SpaceDraws, taken+1)
	}
	return d.goOn(api.CodeOK)
}
