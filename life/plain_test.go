package life_test

import (
	"crypto/sha256"
	"encoding"
	"encoding/binary"
	"slices"

	"warden/api"
	"warden/entry"
	"warden/pagedb"
)

// plain: a database as the chapter's sentences tell it: entries, pages as lists of words, births; and how many words the last call may have touched, at least and at most.
type plain struct {
	entries          []entry.Entry
	secure, insecure [][]uint32
	births           int
	least, most      int64
}

// told: what a database says of itself now.
func told(d *pagedb.DB) *plain {
	p := &plain{secure: peeked(d, secure, d.Pages()), insecure: peeked(d, insecure, d.Memory().Insecure()), births: d.Births()}
	for page := range d.Pages() {
		e, _ := d.Entry(page)
		p.entries = append(p.entries, e)
	}
	return p
}

func peeked(d *pagedb.DB, frame func(int) api.Frame, pages int) [][]uint32 {
	all := make([][]uint32, pages)
	for page := range all {
		all[page] = make([]uint32, 1024)
		for off := range all[page] {
			all[page][off] = d.Memory().Peek(frame(page), off)
		}
	}
	return all
}

// applies: a line of a call's list of codes: whether it is so, and the code.
type applies struct {
	so   bool
	code api.Code
}

// first: the code of the first that applies; CodeOK, if none does.
func first(list ...applies) api.Code {
	for _, a := range list {
		if a.so {
			return a.code
		}
	}
	return api.CodeOK
}

func (p *plain) noPage(w uint32) bool { return uint64(w) >= uint64(len(p.secure)) }

// entry: of any word; of one that is no page's the entry of none.
func (p *plain) entry(w uint32) entry.Entry {
	if p.noPage(w) {
		return entry.Entry{Type: entry.Types}
	}
	return p.entries[w]
}

func (p *plain) Spare(space, page uint32) api.Code {
	code := first(
		applies{p.noPage(space), api.CodePage},
		applies{p.entry(space).Type != entry.Space, api.CodeSpace},
		applies{p.entry(space).State == entry.Stopped, api.CodeStopped},
		applies{p.noPage(page), api.CodePage},
		applies{p.entry(page).Type != entry.Free, api.CodeUsed},
	)
	if code == api.CodeOK {
		p.entries[page] = entry.Entry{Type: entry.Spare, Owner: int(space)}
		p.entries[space].Refs++
	}
	return code
}

func (p *plain) Final(space uint32) api.Code {
	code := first(
		applies{p.noPage(space), api.CodePage},
		applies{p.entry(space).Type != entry.Space, api.CodeSpace},
		applies{p.entry(space).State != entry.Init, api.CodeFinal},
	)
	if code != api.CodeOK {
		return code
	}
	words := p.secure[space]
	if noDigest(words[11:37]) {
		p.most = 26 // they must be read to be refused
		return api.CodeFinal
	}
	sum := digestSum(words[11:37])
	copy(words[3:], sum[:])
	clear(words[11:37])
	p.entries[space].State = entry.Final
	p.least, p.most = 60, 60
	return api.CodeOK
}

func (p *plain) Stop(space uint32) api.Code {
	code := first(
		applies{p.noPage(space), api.CodePage},
		applies{p.entry(space).Type != entry.Space, api.CodeSpace},
	)
	if code == api.CodeOK {
		p.entries[space].State = entry.Stopped
	}
	return code
}

func (p *plain) Remove(page uint32) api.Code {
	e := p.entry(page)
	isSpace, isSpare := e.Type == entry.Space, e.Type == entry.Spare
	code := first(
		applies{p.noPage(page), api.CodePage},
		applies{e.Type == entry.Free, api.CodeFree},
		applies{isSpace && e.State != entry.Stopped, api.CodeNotStopped},
		applies{isSpace && len(p.owned(int(page))) > 0, api.CodeHeld},
		applies{!isSpace && !isSpare && p.entry(uint32(e.Owner)).State != entry.Stopped, api.CodeNotStopped},
	)
	if code == api.CodeOK {
		if !isSpace {
			p.entries[e.Owner].Refs--
		}
		p.entries[page] = entry.Entry{}
		clear(p.secure[page])
		p.least, p.most = 1024, 1024
	}
	return code
}

// owned: the pages of a space, itself left out, rising.
func (p *plain) owned(space int) (list []int) {
	for page, e := range p.entries {
		if page != space && e.Type != entry.Free && e.Owner == space {
			list = append(list, page)
		}
	}
	return list
}

func (p *plain) plan(space int) []int {
	if space < 0 || space >= len(p.entries) || p.entries[space].Type != entry.Space {
		return nil
	}
	return append(p.owned(space), space)
}

// firstState: of SHA-256, as chapter 2 has it.
func firstState() []uint32 {
	return []uint32{0x6a09e667, 0xbb67ae85, 0x3c6ef372, 0xa54ff53a, 0x510e527f, 0x9b05688c, 0x1f83d9ab, 0x5be0cd19}
}

func digestLen(words []uint32) uint64 { return uint64(words[8])<<32 | uint64(words[9]) }

// noDigest: whether 26 words are no saved digest, by chapter 2's sentences.
func noDigest(words []uint32) bool {
	n := digestLen(words)
	waiting := words[10+n%16:]
	return n > 1<<55 || n < 16 && !slices.Equal(words[:8], firstState()) || slices.ContainsFunc(waiting, func(w uint32) bool { return w != 0 })
}

// digestSum: the sum of a saved digest, by the library, which takes up a state that is laid down in a form of its own.
func digestSum(words []uint32) [8]uint32 {
	n := digestLen(words)
	b := []byte("sha\x03")
	for _, w := range words[:8] {
		b = binary.BigEndian.AppendUint32(b, w)
	}
	for i := range uint64(16) {
		waits := uint32(0)
		if i < n%16 {
			waits = words[10+i]
		}
		b = binary.BigEndian.AppendUint32(b, waits)
	}
	b = binary.BigEndian.AppendUint64(b, 4*n)
	h := sha256.New()
	if err := h.(encoding.BinaryUnmarshaler).UnmarshalBinary(b); err != nil {
		panic(err)
	}
	return asWords(h.Sum(nil))
}

// librarySum: SHA-256 of words, by the library.
func librarySum(words ...uint32) [8]uint32 {
	var b []byte
	for _, w := range words {
		b = binary.BigEndian.AppendUint32(b, w)
	}
	sum := sha256.Sum256(b)
	return asWords(sum[:])
}

func asWords(b []byte) (sum [8]uint32) {
	for i := range sum {
		sum[i] = binary.BigEndian.Uint32(b[4*i:])
	}
	return sum
}
