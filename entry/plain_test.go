package entry_test

import (
	"math"

	"warden/api"
	"warden/entry"
)

// words: an entry's, or those that are none's.
type words = [2]uint32

// entries: all that may be, each by its words, laid out type by type as the chapter lists them.
func entries() map[words]entry.Entry {
	all := map[words]entry.Entry{{}: {}}
	for owner := range 64 {
		high := uint32(owner) * 0x10000
		for refs := range 64 {
			all[words{high + 0x11, uint32(refs)}] = entry.Entry{Type: 1, Owner: owner, Refs: refs, State: 1}
			all[words{high + 0x21, uint32(refs)}] = entry.Entry{Type: 1, Owner: owner, Refs: refs, State: 2}
			all[words{high + 0x31, uint32(refs)}] = entry.Entry{Type: 1, Owner: owner, Refs: refs, State: 3}
		}
		all[words{high + 0x002, 0}] = entry.Entry{Type: 2, Owner: owner}
		all[words{high + 0x102, 0}] = entry.Entry{Type: 2, Owner: owner, Entered: true}
		for kind := 3; kind <= 6; kind++ {
			all[words{high + uint32(kind), 0}] = entry.Entry{Type: entry.Type(kind), Owner: owner}
		}
	}
	return all
}

// byEntry: the same the other way round.
func byEntry() map[entry.Entry]words {
	all := make(map[entry.Entry]words)
	for w, e := range entries() {
		all[e] = w
	}
	return all
}

// errUnless: what is answered of one that the list has, and of one that it hasn't.
func errUnless(listed bool) api.Errno {
	if listed {
		return api.OK
	}
	return api.ErrEntry
}

// wild: numbers of all sizes, among them such as are small again when their upper bits are cut off.
var wild = []int{math.MinInt, math.MinInt32, -1 << 16, -64, -63, -1, 0, 1, 2, 5, 62, 63, 64, 65, 127, 128, 255, 256, 261, 1 << 16, 1<<16 + 5, math.MaxInt32, 1 << 32, 1<<32 + 1, 1<<32 + 5, 1<<48 + 2, math.MaxInt}
