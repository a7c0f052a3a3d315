package svc

import (
	"warden/api"
	"warden/attest"
	"warden/walk"
)

// signing: a call about tags under the boot key, which the thread itself never sees.
type signing struct {
	caller
	key [8]uint32
}

func (s signing) attest() answer {
	var data [8]uint32
	copy(data[:], s.file.R[1:])
	return s.tell(attest.Tag(s.key, s.measurement(), data))
}

// verify: of measurement, data and tag that lie one behind the other from the address in r1 on.
func (s signing) verify() answer {
	var parts [3][8]uint32
	va := s.file.R[1]
	for i := range parts {
		for j := range parts[i] {
			w, e := s.load(va)
			if e != api.OK {
				return s.goOn(api.CodeMemory)
			}
			parts[i][j] = w
			va += 4
		}
	}
	s.file.R[1] = 0
	if attest.Verify(s.key, parts[0], parts[1], parts[2]) {
		s.file.R[1] = 1
	}
	return s.goOn(api.CodeOK)
}

// load: the word at an address, by the walk that the thread's own loads take: so it learns nothing here of what it can't read.
func (s signing) load(va uint32) (uint32, api.Errno) {
	m := s.db.Memory()
	frame, off, e := walk.Translate(m, s.table, va, walk.Load)
	if e != api.OK {
		return 0, e
	}
	return m.Read(frame, off)
}
