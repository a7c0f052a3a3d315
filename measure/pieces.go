package measure

import (
	"warden/api"
	"warden/sha"
)

// Start, Extend, Finish: the same in pieces: a saved digest of no ops, with one op more (ErrOps; ErrSaved), its sum (ErrSaved).
func Start() [sha.StateWords]uint32 { return sha.New().Save() }
func Extend(s [sha.StateWords]uint32, o Op) ([sha.StateWords]uint32, api.Errno) {
	p, e := operationOf(o)
	if e != api.OK {
		return [sha.StateWords]uint32{}, e
	}
	d, e := sha.Load(s[:])
	if e != api.OK {
		return [sha.StateWords]uint32{}, e
	}
	// In one piece: a digest that has no room for all of them takes none.
	d.Add(lay(nil, p))
	return d.Save(), api.OK
}
func Finish(s [sha.StateWords]uint32) ([8]uint32, api.Errno) {
	d, e := sha.Load(s[:])
	if e != api.OK {
		return [8]uint32{}, e
	}
	return d.Sum(), api.OK
}
