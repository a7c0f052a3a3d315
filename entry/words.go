package entry

import "warden/api"

// Where the fields of word 0 begin: at every fourth bit, with room behind for the next one. Refs alone fill word 1.
const (
	typeAt = 4 * iota
	stateAt
	enteredAt
	_
	ownerAt
)

// How far the fields reach: a mask for each count of bits.
const (
	oneBit = 1<<(iota+1) - 1
	twoBits
	threeBits
	_
	_
	sixBits
)

// Encode: two words. As Check. Decode: just what Encode gives; ErrEntry.
func Encode(e Entry) ([2]uint32, api.Errno) {
	if bad := Check(e); bad != api.OK {
		return [2]uint32{}, bad
	}
	w := uint32(e.Type)<<typeAt | uint32(e.State)<<stateAt | uint32(e.Owner)<<ownerAt
	if e.Entered {
		w |= 1 << enteredAt
	}
	return [2]uint32{w, uint32(e.Refs)}, api.OK
}

func Decode(w [2]uint32) (Entry, api.Errno) {
	e := fields(w)
	// Encoding it again finds the bits that are no field's, and what no entry is.
	if again, bad := Encode(e); bad != api.OK || again != w {
		return Entry{}, api.ErrEntry
	}
	return e, api.OK
}

// fields: what stands in them, be it an entry or not.
func fields(w [2]uint32) Entry {
	return Entry{
		Type:    Type(w[0] >> typeAt & threeBits),
		Owner:   int(w[0] >> ownerAt & sixBits),
		Refs:    int(w[1] & sixBits),
		State:   State(w[0] >> stateAt & twoBits),
		Entered: w[0]>>enteredAt&oneBit == 1,
	}
}
