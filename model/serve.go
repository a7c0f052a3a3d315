package model

import (
	"warden/api"
	"warden/attest"
	"warden/entry"
	"warden/walk"
)

// What a thread's call costs in fuel.
const (
	cheap = 1
	dear  = 64
)

func cost(number uint32) int {
	switch number {
	case api.SvcAttest, api.SvcVerify, api.SvcMap, api.SvcUnmap, api.SvcTable:
		return dear
	}
	return cheap
}

// serve: a call that the thread goes on behind: the code.
func (r *run) serve(number uint32) api.Code {
	switch number {
	case api.SvcAttest:
		return r.attest()
	case api.SvcVerify:
		return r.verify()
	case api.SvcMap:
		return r.mapSpare()
	case api.SvcUnmap:
		return r.unmapData()
	case api.SvcTable:
		return r.addTable()
	case api.SvcRandom:
		return r.draw()
	case api.SvcSelf:
		return r.tell(r.space.measurement)
	}
	return api.CodeCall
}

// tell: eight words, from r1 on.
func (r *run) tell(words [8]uint32) api.Code {
	copy(r.file.R[1:], words[:])
	return api.CodeOK
}

func (r *run) key() [8]uint32 { return attest.Key(r.m.config.Seed) }

func (r *run) attest() api.Code {
	var data [8]uint32
	copy(data[:], r.file.R[1:])
	return r.tell(attest.Tag(r.key(), r.space.measurement, data))
}

// verify: of measurement, data and tag that lie one behind the other from the address in r1 on.
func (r *run) verify() api.Code {
	var parts [3][8]uint32
	va := r.file.R[1]
	for i := range parts {
		for j := range parts[i] {
			w, may := r.sight.load(va)
			if !may {
				return api.CodeMemory
			}
			parts[i][j] = w
			va += wordBytes
		}
	}
	r.file.R[1] = 0
	if attest.Verify(r.key(), parts[0], parts[1], parts[2]) {
		r.file.R[1] = 1
	}
	return api.CodeOK
}

// names: is r1 a page of that type, and of the thread's own space?
func (r *run) names(kind entry.Type) bool {
	page := r.file.R[1]
	return r.m.isPage(page) && r.m.pages[page].kind == kind && r.m.pages[page].owner == r.owner
}

// asked: the address and the map that r1 and r2 say. False, if r2 is no mapping word.
func (r *run) asked() (uint32, walk.Map, bool) { return mapped(r.file.R[2], secure(r.file.R[1])) }

// turn: the page in r1 becomes one of that type, zero.
func (r *run) turn(kind entry.Type) {
	turned := record{kind: kind, owner: r.owner}
	if kind == entry.Data {
		turned.words = make([]uint32, api.PageWords)
	}
	r.m.pages[r.file.R[1]] = turned
}

func (r *run) mapSpare() api.Code {
	va, to, is := r.asked()
	switch {
	case !r.names(entry.Spare):
		return api.CodeSpare
	case !is:
		return api.CodeMapping
	}
	if code := r.space.refuses(va); code != api.CodeOK {
		return code
	}
	r.turn(entry.Data)
	r.space.maps.put(va, to)
	return api.CodeOK
}

func (r *run) unmapData() api.Code {
	va, to, is := r.asked()
	switch {
	case !r.names(entry.Data):
		return api.CodeData
	case !is:
		return api.CodeMapping
	case !r.space.hasTable(va):
		return api.CodeTable
	}
	if there, _ := r.space.maps.at(va); there != to {
		return api.CodeAddress
	}
	r.space.maps.cut(va)
	r.turn(entry.Spare)
	return api.CodeOK
}

func (r *run) addTable() api.Code {
	page, index := int(r.file.R[1]), r.file.R[2]
	switch {
	case !r.names(entry.Spare):
		return api.CodeSpare
	case index >= api.L1Words:
		return api.CodeArg
	case r.space.tables.has(int(index)):
		return api.CodeAddress
	}
	r.turn(entry.Second)
	r.space.tables.put(int(index), page)
	return api.CodeOK
}

// draw: the next one of the space's stream; 0 behind its end. No stream has more than MaxDraws, so that to count on would tell nothing.
func (r *run) draw() api.Code {
	stream := streamOf(r.m.config, r.space.birth)
	r.file.R[1] = 0
	if r.space.draws < len(stream) {
		r.file.R[1] = stream[r.space.draws]
	}
	if r.space.draws < api.MaxDraws {
		r.space.draws++
	}
	return api.CodeOK
}
