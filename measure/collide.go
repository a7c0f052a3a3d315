package measure

import (
	"slices"

	"warden/api"
	"warden/sha"
)

// Pair: two unlike lists of words of one sum.
type Pair struct{ A, B []uint32 }

// Collide: of two lists of ops of one measurement: the two lists of words, if they are unlike (ErrArg: the measurements part, or the lists are the same); as Encode.
func Collide(a, b []Op) (Pair, api.Errno) { return collide(a, b, sha.Sum) }

// collide: by that sum. (Nobody knows two lists of one SHA-256: what is answered of such can be tried with a weaker sum alone.)
func collide(a, b []Op, sum func(words []uint32) [8]uint32) (Pair, api.Errno) {
	wordsA, e := Encode(a)
	if e != api.OK {
		return Pair{}, e
	}
	wordsB, e := Encode(b)
	if e != api.OK {
		return Pair{}, e
	}
	// Lists are the same just if their words are: the first word of each operation says how many it has.
	if slices.Equal(wordsA, wordsB) || sum(wordsA) != sum(wordsB) {
		return Pair{}, api.ErrArg
	}
	return Pair{A: wordsA, B: wordsB}, api.OK
}
