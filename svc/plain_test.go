package svc_test

import (
	"crypto/hmac"
	"crypto/sha256"
	"encoding/binary"
	"slices"

	"warden/api"
	"warden/entry"
	"warden/pagedb"
	"warden/regs"
)

// plain: a machine as the chapter's sentences tell it: entries, pages as lists of words, births.
type plain struct {
	entries          []entry.Entry
	secure, insecure [][]uint32
	births           int
}

// told: what a database says of itself now.
func told(d *pagedb.DB) *plain {
	p := &plain{secure: peeked(d, secure, d.Pages()), insecure: peeked(d, insecure, d.Memory().Insecure()), births: d.Births()}
	for page := range d.Pages() {
		e, _ := d.Entry(page)
		p.entries = append(p.entries, e)
	}
	return p
}

func peeked(d *pagedb.DB, frame func(int) api.Frame, pages int) [][]uint32 {
	all := make([][]uint32, pages)
	for page := range all {
		all[page] = make([]uint32, 1024)
		for off := range all[page] {
			all[page][off] = d.Memory().Peek(frame(page), off)
		}
	}
	return all
}

// ask: what Do is handed beside the database.
type ask struct {
	key     [8]uint32
	streams [][]uint32
	thread  int
	n       uint32
	file    regs.File
}

// result: what Do answers.
type result struct {
	file  regs.File
	exit  bool
	value uint32
	e     api.Errno
}

func (p *plain) do(a ask) result {
	of, runs := p.running(a.thread)
	if !runs {
		return result{e: api.ErrType}
	}
	if a.n == 0 {
		return result{file: a.file, exit: true, value: a.file.R[0]}
	}
	g := a.file
	g.R[0] = uint32(of.call(a, &g))
	return result{file: g}
}

// enclave: a space by its page and its table's.
type enclave struct {
	*plain
	space, table int
}

// running: the enclave whose thread stands in a page; false, if there is none that may run.
func (p *plain) running(thread int) (enclave, bool) {
	if thread < 0 || thread >= len(p.entries) || p.entries[thread].Type != entry.Thread {
		return enclave{}, false
	}
	s := p.entries[thread].Owner
	if p.entries[s].Type != entry.Space || p.entries[s].State != entry.Final {
		return enclave{}, false
	}
	table := p.secure[s][0]
	return enclave{p, s, int(table)}, p.is(table, entry.First, s)
}

// is: whether a number is a page of that type and that space.
func (p *plain) is(page uint32, t entry.Type, space int) bool {
	return uint64(page) < uint64(len(p.entries)) && p.entries[page].Type == t && p.entries[page].Owner == space
}

// call: what a call changes, in the machine and in the file but for r0; and its code.
func (of enclave) call(a ask, g *regs.File) api.Code {
	words := of.secure[of.space]
	switch a.n {
	case 1:
		copy(g.R[1:9], libraryTag(a.key[:], words[3:11], a.file.R[1:9]))
	case 2:
		return of.verify(a, g)
	case 3:
		return of.join(a.file.R[1], a.file.R[2])
	case 4:
		return of.part(a.file.R[1], a.file.R[2])
	case 5:
		return of.grow(a.file.R[1], a.file.R[2])
	case 6:
		g.R[1] = drawn(a.streams, words[1], words[2])
		if words[2] < 4096 {
			words[2]++
		}
	case 7:
		copy(g.R[1:9], words[3:11])
	default:
		return api.CodeCall
	}
	return api.CodeOK
}

func (of enclave) verify(a ask, g *regs.File) api.Code {
	var words []uint32
	for i := range uint32(24) {
		w, can := of.load(a.file.R[1] + 4*i)
		if !can {
			return api.CodeMemory
		}
		words = append(words, w)
	}
	g.R[1] = 0
	if slices.Equal(libraryTag(a.key[:], words[:8], words[8:16]), words[16:]) {
		g.R[1] = 1
	}
	return api.CodeOK
}

// load: the word at an address, through two tables, whosever they are; false, if it can't be read.
func (of enclave) load(va uint32) (uint32, bool) {
	if va%4 != 0 || va >= 0x40000000 {
		return 0, false
	}
	w := of.secure[of.table][va/0x400000]
	if w%256 != 1 || uint64(w/256) >= uint64(len(of.secure)) {
		return 0, false
	}
	v := of.secure[w/256][va/0x1000%1024]
	pages := of.insecure
	if v%4 == 3 {
		pages = of.secure
	}
	if !slices.Contains([]uint32{1, 5, 3, 7, 11, 15}, v%256) || uint64(v/256) >= uint64(len(pages)) {
		return 0, false
	}
	return pages[v/256][va/4%1024], true
}

// applies: a line of a call's list of codes: whether it is so, and the code.
type applies struct {
	so   bool
	code api.Code
}

// first: the code of the first that applies; CodeOK, if none does.
func first(list ...applies) api.Code {
	for _, a := range list {
		if a.so {
			return a.code
		}
	}
	return api.CodeOK
}

func noMapping(w uint32) bool { return w%2 == 0 || w%4096 > 7 || w >= 0x40000000 }

// place: where a mapping's descriptor stands, as the words from it on; none, if the space has no second-level table for it.
func (of enclave) place(mapping uint32) []uint32 {
	if mapping >= 0x40000000 {
		return nil
	}
	w := of.secure[of.table][mapping/0x400000]
	if w%256 != 1 || !of.is(w/256, entry.Second, of.space) {
		return nil
	}
	return of.secure[w/256][mapping/0x1000%1024:]
}

// descriptor: of a secure page, by what a mapping word says.
func descriptor(page, mapping uint32) uint32 { return 256*page + 3 + mapping%8/2*4 }

func (of enclave) turn(page uint32, t entry.Type) {
	of.entries[page].Type = t
	clear(of.secure[page])
}

func (of enclave) join(page, mapping uint32) api.Code {
	place := of.place(mapping)
	code := first(
		applies{!of.is(page, entry.Spare, of.space), api.CodeSpare},
		applies{noMapping(mapping), api.CodeMapping},
		applies{place == nil, api.CodeTable},
		applies{place != nil && place[0] != 0, api.CodeAddress},
	)
	if code == api.CodeOK {
		of.turn(page, entry.Data)
		place[0] = descriptor(page, mapping)
	}
	return code
}

func (of enclave) part(page, mapping uint32) api.Code {
	place := of.place(mapping)
	code := first(
		applies{!of.is(page, entry.Data, of.space), api.CodeData},
		applies{noMapping(mapping), api.CodeMapping},
		applies{place == nil, api.CodeTable},
		applies{place != nil && place[0] != descriptor(page, mapping), api.CodeAddress},
	)
	if code == api.CodeOK {
		place[0] = 0
		of.turn(page, entry.Spare)
	}
	return code
}

func (of enclave) grow(page, index uint32) api.Code {
	table := of.secure[of.table]
	code := first(
		applies{!of.is(page, entry.Spare, of.space), api.CodeSpare},
		applies{index > 255, api.CodeArg},
		applies{table[index%1024] != 0, api.CodeAddress},
	)
	if code == api.CodeOK {
		of.turn(page, entry.Second)
		table[index] = 256*page + 1
	}
	return code
}

func drawn(streams [][]uint32, birth, taken uint32) uint32 {
	for i, stream := range streams {
		for j, v := range stream {
			if uint64(i) == uint64(birth) && uint64(j) == uint64(taken) {
				return v
			}
		}
	}
	return 0
}

// libraryTag: HMAC-SHA-256 of a measurement and eight words, by the library.
func libraryTag(key, measurement, data []uint32) []uint32 {
	h := hmac.New(sha256.New, asBytes(key))
	h.Write(asBytes(measurement))
	h.Write(asBytes(data))
	sum := h.Sum(nil)
	var tag []uint32
	for i := range 8 {
		tag = append(tag, binary.BigEndian.Uint32(sum[4*i:]))
	}
	return tag
}

func asBytes(words []uint32) (b []byte) {
	for _, w := range words {
		b = binary.BigEndian.AppendUint32(b, w)
	}
	return b
}
