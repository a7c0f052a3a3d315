package enter

import (
	"warden/api"
	"warden/cpu"
	"warden/regs"
	"warden/svc"
)

// Of every instruction, a svc too.
const (
	stepBytes = 4
	stepCost  = 1
)

// run: a thread that runs: where it stands, and how much fuel is left.
type run struct {
	thread
	key     [8]uint32
	streams [][]uint32
	file    regs.File
	left    int
}

// toItsEnd: by an exit, a fault or an interrupt.
func (r *run) toItsEnd() (code api.Code, value uint32) {
	// A file with which nobody may go on is left nowhere, so zeros are laid wherever the run doesn't end by an interrupt.
	defer func() {
		var words [regs.PackWords]uint32
		interrupted := code == api.CodeInterrupted
		if interrupted {
			words = regs.Pack(r.file)
		}
		r.settle(words, interrupted)
	}()
	for {
		ev := r.steps()
		if ev.Kind != cpu.Call {
			return ended(ev.Kind)
		}
		if !r.pay(ev.Arg) {
			return api.CodeInterrupted, 0
		}
		g, exit, told, e := svc.Do(r.db, r.key, r.streams, r.page, ev.Arg, r.file)
		switch {
		case e != api.OK:
			// In no valid state: the thread has lost the space in which it ran.
			return api.CodeFault, api.FaultFetch
		case exit:
			return api.CodeOK, told
		}
		r.file = g
	}
}

// steps: as many as come ahead of an event.
func (r *run) steps() cpu.Event {
	g, ev, used, _ := cpu.Run(r.db.Memory(), r.table, r.file, r.left)
	r.file = g
	r.left -= used
	return ev
}

// pay: a call costs what is its own in the place of the svc's step. If that isn't left, it is false, and the thread stands at the svc again.
func (r *run) pay(n uint32) bool {
	left := r.left + stepCost - svc.Cost(n)
	if left < 0 {
		r.file.PC -= stepBytes
		return false
	}
	r.left = left
	return true
}

// ended: what the system is told of a run that no call ended.
func ended(k cpu.Kind) (api.Code, uint32) {
	switch k {
	case cpu.Code:
		return api.CodeFault, api.FaultCode
	case cpu.Fetch:
		return api.CodeFault, api.FaultFetch
	case cpu.Data:
		return api.CodeFault, api.FaultData
	}
	return api.CodeInterrupted, 0
}
