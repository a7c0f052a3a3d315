package pagedb

import (
	"warden/api"
	"warden/entry"
	"warden/mem"
)

// size: how many words a database over m has. place: where those of a page begin.
func size(m *mem.Memory) int { return place(m.Secure()) }
func place(page int) int     { return 1 + 2*page }

// pair: the two words of a page that there is.
func (d *DB) pair(page int) [2]uint32 {
	n := place(page)
	return [2]uint32{d.words[n], d.words[n+1]}
}

// Words: the database as words: births, then two words for each page. Load: over a memory, from words that Words gave (by their form: as many, entries that decode; ErrEntry); the memory stays as it is.
func (d *DB) Words() []uint32 {
	words := make([]uint32, len(d.words))
	copy(words, d.words)
	return words
}
func Load(m *mem.Memory, words []uint32) (*DB, api.Errno) {
	if m == nil || len(words) != size(m) || words[0] > api.MaxStreams {
		return nil, api.ErrEntry
	}
	given := DB{memory: m, words: words}
	for page := range given.Pages() {
		if !given.sound(page) {
			return nil, api.ErrEntry
		}
	}
	return &DB{memory: m, words: given.Words()}, api.OK
}

// sound: are a page's words an entry's, and its owner a page? (A free page's owner is 0, and a page 0 there always is.)
func (d *DB) sound(page int) bool {
	e, bad := entry.Decode(d.pair(page))
	return bad == api.OK && e.Owner < d.Pages()
}

// Clone: another one over a clone of the memory.
func (d *DB) Clone() *DB { return &DB{memory: d.memory.Clone(), words: d.Words()} }
