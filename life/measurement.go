package life

import (
	"warden/api"
	"warden/entry"
	"warden/measure"
	"warden/pagedb"
)

// finished: the sum of the running digest that stands in a space's page. ErrSaved, where none stands there: somebody wrote into the page.
func finished(d *pagedb.DB, space int) ([8]uint32, api.Errno) {
	state := measure.Start()
	for i := range state {
		state[i], _ = d.Memory().Read(secure(space), entry.SpaceDigest+i)
	}
	return measure.Finish(state)
}

// layMeasurement: the digest goes, so that nothing can be added to what is measured now.
func layMeasurement(d *pagedb.DB, space int, sum [8]uint32) {
	for i, w := range sum {
		d.Memory().Write(secure(space), entry.SpaceMeasure+i, w)
	}
	for off := entry.SpaceDigest; off < entry.SpaceUsed; off++ {
		d.Memory().Write(secure(space), off, 0)
	}
}

func secure(page int) api.Frame { return api.Frame{Secure: true, Page: page} }
