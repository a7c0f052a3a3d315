package build

import (
	"warden/api"
	"warden/entry"
	"warden/measure"
)

// extended: what the running digest becomes with an operation. In a valid state a digest stands there; where none does, the space can't be built any further.
func (s site) extended(o measure.Op) []uint32 {
	state := measure.Start()
	for i := range state {
		state[i], _ = s.db.Memory().Read(secure(s.page), entry.SpaceDigest+i)
	}
	next, e := measure.Extend(state, o)
	insist(e == api.OK, api.CodeFinal)
	return next[:]
}

func (s site) layDigest(words []uint32) {
	for i, w := range words {
		s.db.Memory().Write(secure(s.page), entry.SpaceDigest+i, w)
	}
}
