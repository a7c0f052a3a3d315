package model

import (
	"warden/api"
	"warden/entry"
	"warden/measure"
	"warden/walk"
)

// called: what is done for the system by what its registers say: the code, and the value.
func (m *Model) called(fuel int) (api.Code, uint32) {
	a, b, c, d := m.registers[1], m.registers[2], m.registers[3], m.registers[4]
	switch m.registers[0] {
	case api.CallQuery:
		return api.CodeOK, api.Magic
	case api.CallSecure:
		return api.CodeOK, uint32(len(m.pages))
	case api.CallInsecure:
		return api.CodeOK, uint32(len(m.insecure))
	case api.CallSpace:
		return m.addSpace(a, b), 0
	case api.CallThread:
		return m.addThread(a, b, c), 0
	case api.CallTable:
		return m.addTable(a, b, c), 0
	case api.CallData:
		return m.addData(a, b, c, d), 0
	case api.CallShare:
		return m.addShare(a, b, c), 0
	case api.CallSpare:
		return m.addSpare(a, b), 0
	case api.CallFinal:
		return m.finish(a), 0
	case api.CallEnter:
		return m.enter(a, b, c, d, fuel)
	case api.CallResume:
		return m.resume(a, fuel)
	case api.CallStop:
		return m.stop(a), 0
	case api.CallRemove:
		return m.remove(a), 0
	}
	return api.CodeCall, 0
}

func (m *Model) addSpace(page, first uint32) api.Code {
	switch {
	case !m.isPage(page) || !m.isPage(first):
		return api.CodePage
	case page == first:
		return api.CodeArg
	case !m.isFree(page) || !m.isFree(first):
		return api.CodeUsed
	case m.births >= api.MaxStreams:
		return api.CodeStreams
	}
	m.pages[page] = record{kind: entry.Space, owner: int(page), space: space{state: entry.Init, birth: m.births, digest: measure.Start()}}
	m.pages[first] = record{kind: entry.First, owner: int(page)}
	m.births++
	return api.CodeOK
}

func (m *Model) addThread(owner, page, begins uint32) api.Code {
	s, code := m.buildingAt(owner)
	switch {
	case code != api.CodeOK:
		return code
	case !m.isPage(page):
		return api.CodePage
	case !m.isFree(page):
		return api.CodeUsed
	}
	m.pages[page] = record{kind: entry.Thread, owner: int(owner), thread: thread{begins: begins}}
	s.measure(measure.Op{Kind: measure.Thread, Arg: begins})
	return api.CodeOK
}

func (m *Model) addTable(owner, page, index uint32) api.Code {
	s, code := m.buildingAt(owner)
	switch {
	case code != api.CodeOK:
		return code
	case !m.isPage(page):
		return api.CodePage
	case index >= api.L1Words:
		return api.CodeArg
	case !m.isFree(page):
		return api.CodeUsed
	case s.tables.has(int(index)):
		return api.CodeAddress
	}
	m.pages[page] = record{kind: entry.Second, owner: int(owner)}
	s.tables.put(int(index), int(page))
	s.measure(measure.Op{Kind: measure.Table, Arg: index})
	return api.CodeOK
}

func (m *Model) addData(owner, page, word, from uint32) api.Code {
	s, code := m.buildingAt(owner)
	va, to, is := mapped(word, secure(page))
	switch {
	case code != api.CodeOK:
		return code
	case !m.isPage(page):
		return api.CodePage
	case !is:
		return api.CodeMapping
	case !m.isInsecure(from):
		return api.CodeInsecure
	case !m.isFree(page):
		return api.CodeUsed
	}
	if code = s.refuses(va); code != api.CodeOK {
		return code
	}
	m.pages[page] = record{kind: entry.Data, owner: int(owner), words: copyOf(m.insecure[from])}
	s.maps.put(va, to)
	s.measure(measure.Op{Kind: measure.Data, Arg: word, Words: m.insecure[from]})
	return api.CodeOK
}

func (m *Model) addShare(owner, word, page uint32) api.Code {
	s, code := m.buildingAt(owner)
	va, to, is := mapped(word, insecure(page))
	switch {
	case code != api.CodeOK:
		return code
	case !is || to.Exec:
		return api.CodeMapping
	case !m.isInsecure(page):
		return api.CodeInsecure
	}
	if code = s.refuses(va); code != api.CodeOK {
		return code
	}
	s.maps.put(va, to)
	s.measure(measure.Op{Kind: measure.Share, Arg: word})
	return api.CodeOK
}

func (m *Model) addSpare(owner, page uint32) api.Code {
	s, code := m.spaceAt(owner)
	switch {
	case code != api.CodeOK:
		return code
	case s.state == entry.Stopped:
		return api.CodeStopped
	case !m.isPage(page):
		return api.CodePage
	case !m.isFree(page):
		return api.CodeUsed
	}
	m.pages[page] = record{kind: entry.Spare, owner: int(owner)}
	return api.CodeOK
}

// finish: nothing can be added any more to what is measured now, so the digest goes.
func (m *Model) finish(owner uint32) api.Code {
	s, code := m.buildingAt(owner)
	if code != api.CodeOK {
		return code
	}
	s.measurement, _ = measure.Finish(s.digest)
	s.digest = digest{}
	s.state = entry.Final
	return api.CodeOK
}

// stop: nobody follows the tables any more, so nothing of what they said is left.
func (m *Model) stop(owner uint32) api.Code {
	s, code := m.spaceAt(owner)
	if code != api.CodeOK {
		return code
	}
	s.state = entry.Stopped
	s.tables = kept[int, int]{}
	s.maps = kept[uint32, walk.Map]{}
	return api.CodeOK
}

func (m *Model) remove(page uint32) api.Code {
	if !m.isPage(page) {
		return api.CodePage
	}
	r := m.pages[page]
	switch {
	case r.kind == entry.Free:
		return api.CodeFree
	case r.kind != entry.Spare && m.spaceOf(page).state != entry.Stopped:
		return api.CodeNotStopped
	case r.kind == entry.Space && m.holds(int(page)):
		return api.CodeHeld
	}
	m.pages[page] = record{}
	return api.CodeOK
}
