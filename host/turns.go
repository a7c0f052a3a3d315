package host

import "warden/api"

const (
	mostTurns = 4096
	mostJobs  = 256
)

// Job: a thread to be run, with its arguments.
type Job struct {
	Id, Thread int
	A, B, C    uint32
}

// Done: how a job ended: its code and value, how many turns it had. Err: why it never began.
type Done struct {
	Code  api.Code
	Value uint32
	Turns int
	Err   api.Errno
}

// Turns: the jobs by turns, in their order, each turn with that fuel, until each has ended or had most turns (its code then is CodeInterrupted, and it stays interrupted). ErrArg: most below 1 or above 4096; ErrLong: more than 256 jobs.
func (h *Host) Turns(jobs []Job, fuel, most int) ([]Done, api.Errno) {
	switch {
	case most < 1 || most > mostTurns:
		return nil, api.ErrArg
	case len(jobs) > mostJobs:
		return nil, api.ErrLong
	}
	done := make([]Done, len(jobs))
	for going := true; going; {
		going = false
		for k, job := range jobs {
			if !done[k].ended(most) {
				done[k] = h.turn(job, done[k].Turns, fuel)
				going = true
			}
		}
	}
	return done, api.OK
}

// ended: has it no turn to come?
func (d Done) ended(most int) bool {
	return d.Err != api.OK || d.Turns == most || d.Turns > 0 && d.Code != api.CodeInterrupted
}

// turn: one more of a job that had so many; how it stands then. Only the first one can be refused: from then on no other job gets the thread until this one leaves it.
func (h *Host) turn(j Job, had, fuel int) Done {
	if had > 0 {
		code, value, _ := h.Go(j.Id, j.Thread, fuel)
		return Done{Code: code, Value: value, Turns: had + 1}
	}
	code, value, e := h.Run(j.Id, j.Thread, j.A, j.B, j.C, fuel)
	if e != api.OK {
		return Done{Err: e}
	}
	return Done{Code: code, Value: value, Turns: 1}
}
