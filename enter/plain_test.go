package enter_test

import (
	"warden/api"
	"warden/cpu"
	"warden/entry"
	"warden/pagedb"
	"warden/regs"
	"warden/svc"
)

// ask: what a call is handed beside the database.
type ask struct {
	key     [8]uint32
	streams [][]uint32
	resume  bool
	thread  uint32
	args    [3]uint32
	fuel    int
}

// happened: what came in a run: how it ended, or a call of the thread's (by its number and what it answered; -1: it could not be paid).
type happened struct {
	code   api.Code
	value  uint32
	call   uint32
	answer int
}

// reckoning: the chapter's sentences, an instruction at a time, on a machine of its own.
type reckoning struct {
	d    *pagedb.DB
	seen map[happened]int
}

func counted(fuel int) int {
	switch {
	case fuel < 0:
		return 0
	case fuel > 100000:
		return 100000
	}
	return fuel
}

func (r reckoning) do(a ask) told {
	code := r.refusal(a)
	answer := told{code, 0}
	if code == api.CodeOK {
		answer, _ = r.run(a)
	}
	r.seen[happened{code: answer.code, value: min(answer.value, 4), answer: -2}]++
	return answer
}

func (r reckoning) refusal(a ask) api.Code {
	if uint64(a.thread) >= uint64(r.d.Pages()) {
		return api.CodePage
	}
	e, _ := r.d.Entry(int(a.thread))
	s, _ := r.d.Entry(e.Owner)
	switch {
	case e.Type != entry.Thread:
		return api.CodeThread
	case s.State != entry.Final:
		return api.CodeNotFinal
	case e.Entered && !a.resume:
		return api.CodeEntered
	case !e.Entered && a.resume:
		return api.CodeNotEntered
	}
	return api.CodeOK
}

// run: the answer, and how much of the fuel is left.
func (r reckoning) run(a ask) (told, int) {
	m, e := r.d.Memory(), r.owner(a.thread)
	f, left := r.start(a), counted(a.fuel)
	for left > 0 {
		g, ev := cpu.Step(m, int(m.Peek(secure(e), 0)), f)
		cost := 1
		if ev.Kind == cpu.Call {
			cost = svc.Cost(ev.Arg)
		}
		if cost > left { // f stands at the svc still
			r.seen[happened{call: ev.Arg, answer: -1}]++
			break
		}
		left -= cost
		switch ev.Kind {
		case cpu.Next:
			f = g
		case cpu.Call:
			h, exit, value, _ := svc.Do(r.d, a.key, a.streams, int(a.thread), ev.Arg, g)
			if exit {
				r.keep(a.thread, [17]uint32{}, false)
				return told{api.CodeOK, value}, left
			}
			r.seen[happened{call: ev.Arg, answer: int(h.R[0])}]++
			f = h
		default:
			r.keep(a.thread, [17]uint32{}, false)
			return told{api.CodeFault, map[cpu.Kind]uint32{cpu.Code: 1, cpu.Fetch: 2, cpu.Data: 3}[ev.Kind]}, left
		}
	}
	r.keep(a.thread, packed(f), true)
	return told{api.CodeInterrupted, 0}, left
}

func (r reckoning) owner(thread uint32) int {
	e, _ := r.d.Entry(int(thread))
	return e.Owner
}

// start: the file from which a run begins.
func (r reckoning) start(a ask) regs.File {
	word := func(off int) uint32 { return r.d.Memory().Peek(secure(int(a.thread)), off) }
	var f regs.File
	if !a.resume {
		copy(f.R[:], a.args[:])
		f.PC = word(0)
		return f
	}
	for i := range f.R {
		f.R[i] = word(1 + i)
	}
	flags := word(17)
	f.PC, f.Z, f.N, f.L = word(16), flags == 1, flags == 2 || flags == 6, flags == 4 || flags == 6
	return f
}

// packed: a file's words, of flags that a comparison gives.
func packed(f regs.File) (words [17]uint32) {
	copy(words[:], f.R[:])
	words[15] = f.PC
	for i, flag := range []bool{f.Z, f.N, f.L} {
		if flag {
			words[16] += 1 << i
		}
	}
	return words
}

func (r reckoning) keep(thread uint32, words [17]uint32, entered bool) {
	for i, v := range words {
		r.d.Memory().Write(secure(int(thread)), 1+i, v)
	}
	r.d.SetEntered(int(thread), entered)
}
