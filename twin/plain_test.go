package twin_test

import (
	"slices"

	"warden/api"
	"warden/monitor"
	"warden/twin"
	"warden/view"
)

// What the chapter's sentences say, step after step, by nobody but the caller; what a page is, out of the words of the database.

// plainDo: a call is laid into the registers, one by one.
func plainDo(m *monitor.Monitor, s twin.Step) (r twin.Row) {
	switch s.Kind {
	case 0:
		r.Err = m.Write(int(s.A), int(s.B), s.V)
	case 1:
		r.Err = m.SetRegister(int(s.A), s.V)
	case 2:
		for k, v := range []uint32{s.V, s.A, s.B, s.C, s.D} {
			m.SetRegister(k, v)
		}
		r.Code = m.Smc(s.Fuel)
		r.Value = m.Registers()[1]
	default:
		r.Err = api.ErrArg
	}
	return r
}

const (
	threadType = 2
	finalState = 2
)

func plainRuns(m *monitor.Monitor, s twin.Step, birth int) bool {
	d := m.DB()
	if s.Kind != 2 || s.V != 17 && s.V != 18 || int64(s.A) >= int64(d.Pages()) {
		return false
	}
	words := d.Words()
	thread := words[1+2*s.A]
	space := thread >> 16 & 63
	final := words[1+2*space]>>4&3 == finalState
	born := int64(d.Memory().Peek(secure(int(space)), 1)) == int64(birth)
	return thread&7 == threadType && thread>>8&1 == s.V-17 && final && born
}

func plainStream(c monitor.Config, k int) []uint32 {
	if k < len(c.Streams) {
		return c.Streams[k]
	}
	return []uint32{}
}

func plainOne(a, b monitor.Config, birth int) bool {
	one := a.Secure == b.Secure && a.Insecure == b.Insecure && a.Seed == b.Seed
	for k := range api.MaxStreams {
		one = one && (k == birth || slices.Equal(plainStream(a, k), plainStream(b, k)))
	}
	return one
}

func plainCompare(a, b *monitor.Monitor, birth int, steps []twin.Step) (twin.Report, api.Errno) {
	switch {
	case len(steps) > 4096:
		return twin.Report{}, api.ErrLong
	case !plainOne(a.Config(), b.Config(), birth):
		return twin.Report{}, api.ErrConfig
	case !view.Same(view.Of(a, birth), view.Of(b, birth)):
		return twin.Report{}, api.ErrBroken
	}
	a, b = a.Clone(), b.Clone()
	for i, s := range steps {
		ran := plainRuns(a, s, birth) || plainRuns(b, s, birth)
		x, y := plainDo(a, s), plainDo(b, s)
		if ran && !plainLetAlike(a, b, birth, x, y) {
			return twin.Report{End: twin.Let, Step: i}, api.OK
		}
		if part := view.Part(view.Of(a, birth), view.Of(b, birth)); part != "" {
			return twin.Report{End: twin.Parted, Step: i, Part: part}, api.OK
		}
	}
	return twin.Report{End: twin.Through, Step: len(steps)}, api.OK
}

// plainLetAlike: do both let out the same, or is neither there any more?
func plainLetAlike(a, b *monitor.Monitor, birth int, x, y twin.Row) bool {
	p, e := view.Released(a, birth, x.Code, x.Value)
	q, f := view.Released(b, birth, y.Code, y.Value)
	if e != api.OK || f != api.OK {
		return e != api.OK && f != api.OK
	}
	return view.Alike(p, q)
}

func plainTrace(m *monitor.Monitor, steps []twin.Step) (rows []twin.Row, e api.Errno) {
	if len(steps) > 4096 {
		return nil, api.ErrLong
	}
	m = m.Clone()
	for _, s := range steps {
		rows = append(rows, plainDo(m, s))
	}
	return rows, api.OK
}
