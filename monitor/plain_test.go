package monitor_test

import (
	"warden/api"
	"warden/build"
	"warden/enter"
	"warden/life"
	"warden/pagedb"
)

// plain: a machine as the chapter's table says it: the layers' calls, one by one, with what the registers hold.
type plain struct {
	d       *pagedb.DB
	key     [8]uint32
	streams [][]uint32
	r       [15]uint32
}

// smc: one call; behind it r0 is the code and r1 the value.
func (p *plain) smc(fuel int) api.Code {
	code, value := p.answer(min(max(fuel, 0), 100000))
	p.r[0], p.r[1] = uint32(code), value
	return code
}

func (p *plain) answer(fuel int) (api.Code, uint32) {
	a, b, c, d := p.r[1], p.r[2], p.r[3], p.r[4]
	switch p.r[0] {
	case 1:
		return api.CodeOK, 0x57415244
	case 2:
		return api.CodeOK, uint32(p.d.Memory().Secure())
	case 3:
		return api.CodeOK, uint32(p.d.Memory().Insecure())
	case 10:
		return build.Space(p.d, a, b), 0
	case 11:
		return build.Thread(p.d, a, b, c), 0
	case 12:
		return build.Table(p.d, a, b, c), 0
	case 13:
		return build.Data(p.d, a, b, c, d), 0
	case 14:
		return build.Share(p.d, a, b, c), 0
	case 15:
		return life.Spare(p.d, a, b), 0
	case 16:
		return life.Final(p.d, a), 0
	case 17:
		return enter.Enter(p.d, p.key, p.streams, a, b, c, d, fuel)
	case 18:
		return enter.Resume(p.d, p.key, p.streams, a, fuel)
	case 19:
		return life.Stop(p.d, a), 0
	case 20:
		return life.Remove(p.d, a), 0
	}
	return api.CodeCall, 0
}
