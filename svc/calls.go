package svc

import "warden/api"

// calls: what is done for a thread that calls, by the call's number.
func calls(key [8]uint32, streams [][]uint32) map[uint32]func(caller) answer {
	return map[uint32]func(caller) answer{
		api.SvcExit:   caller.leave,
		api.SvcAttest: func(c caller) answer { return signing{c, key}.attest() },
		api.SvcVerify: func(c caller) answer { return signing{c, key}.verify() },
		api.SvcMap:    func(c caller) answer { return turning{c}.mapSpare() },
		api.SvcUnmap:  func(c caller) answer { return turning{c}.unmapData() },
		api.SvcTable:  func(c caller) answer { return turning{c}.addTable() },
		api.SvcRandom: func(c caller) answer { return drawing{c, streams}.draw() },
		api.SvcSelf:   caller.self,
	}
}

// leave: the file is told as it is; the value alone counts.
func (c caller) leave() answer { return answer{file: c.file, exit: true, value: c.file.R[0]} }

func (c caller) self() answer { return c.tell(c.measurement()) }

func (c caller) noCall() answer { return c.goOn(api.CodeCall) }
