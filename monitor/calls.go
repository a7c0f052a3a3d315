package monitor

import (
	"warden/api"
	"warden/build"
	"warden/enter"
	"warden/life"
)

// call: one of the system's, its number and arguments being in the machine's registers.
type call struct {
	*Monitor
	fuel int
}

// calls: what is done for the system, by the call's number: the code, and the value.
func calls() map[uint32]func(call) (api.Code, uint32) {
	return map[uint32]func(call) (api.Code, uint32){
		api.CallQuery:    call.query,
		api.CallSecure:   call.secure,
		api.CallInsecure: call.insecure,
		api.CallSpace:    call.space,
		api.CallThread:   call.thread,
		api.CallTable:    call.table,
		api.CallData:     call.data,
		api.CallShare:    call.share,
		api.CallSpare:    call.spare,
		api.CallFinal:    call.final,
		api.CallEnter:    call.enter,
		api.CallResume:   call.resume,
		api.CallStop:     call.stop,
		api.CallRemove:   call.remove,
	}
}

func (c call) unknown() (api.Code, uint32) { return api.CodeCall, 0 }

func (c call) query() (api.Code, uint32) { return api.CodeOK, api.Magic }

func (c call) secure() (api.Code, uint32) { return api.CodeOK, uint32(c.config.Secure) }

func (c call) insecure() (api.Code, uint32) { return api.CodeOK, uint32(c.config.Insecure) }

func (c call) space() (api.Code, uint32) {
	r := c.registers
	return build.Space(c.db, r[1], r[2]), 0
}

func (c call) thread() (api.Code, uint32) {
	r := c.registers
	return build.Thread(c.db, r[1], r[2], r[3]), 0
}

func (c call) table() (api.Code, uint32) {
	r := c.registers
	return build.Table(c.db, r[1], r[2], r[3]), 0
}

func (c call) data() (api.Code, uint32) {
	r := c.registers
	return build.Data(c.db, r[1], r[2], r[3], r[4]), 0
}

func (c call) share() (api.Code, uint32) {
	r := c.registers
	return build.Share(c.db, r[1], r[2], r[3]), 0
}

func (c call) spare() (api.Code, uint32) {
	r := c.registers
	return life.Spare(c.db, r[1], r[2]), 0
}

func (c call) final() (api.Code, uint32) { return life.Final(c.db, c.registers[1]), 0 }

func (c call) enter() (api.Code, uint32) {
	r := c.registers
	return enter.Enter(c.db, c.key, c.config.Streams, r[1], r[2], r[3], r[4], c.fuel)
}

func (c call) resume() (api.Code, uint32) {
	return enter.Resume(c.db, c.key, c.config.Streams, c.registers[1], c.fuel)
}

func (c call) stop() (api.Code, uint32) { return life.Stop(c.db, c.registers[1]), 0 }

func (c call) remove() (api.Code, uint32) { return life.Remove(c.db, c.registers[1]), 0 }
