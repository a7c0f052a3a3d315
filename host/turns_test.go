package host_test

import (
	"math"
	"slices"
	"testing"

	"warden/api"
	"warden/host"
)

// wants: Turns answers this.
func (w world) wants(jobs []host.Job, fuel, most int, want ...host.Done) {
	w.Helper()
	if got, e := w.turns(jobs, fuel, most); !slices.Equal(got, want) || e != api.OK {
		w.Errorf("P24.6: Turns of %+v with the fuel %d, %d: %+v, %d; want %+v", jobs, fuel, most, got, e, want)
	}
}

func TestTurnsRefused(t *testing.T) {
	w := made(t, 8, 2)
	w.loads(program(t, plus), 0)
	for _, most := range []int{math.MinInt, -4096, -1, 0, 1, 2, 4095, 4096, 4097, 1 << 32, 1<<32 + 1, math.MaxInt} {
		for _, n := range []int{0, 1, 2, 255, 256, 257, 1000} {
			want := api.OK
			switch {
			case most < 1 || most > 4096:
				want = api.ErrArg
			case n > 256:
				want = api.ErrLong
			}
			was := w.h.Machine().Clone()
			got, e := w.turns(make([]host.Job, n), 5, most)
			if e != want || want != api.OK && got != nil || want == api.OK && len(got) != n {
				t.Errorf("P24.6: Turns of %d jobs, %d: %d answers, %d; want %d", n, most, len(got), e, want)
			}
			if want != api.OK {
				sameMachines(t, "Turns, refused", w.h.Machine(), was)
			}
		}
	}
}

// log: each turn of the fuel 6 writes the thread's first argument behind those that stand in the share.
const log = "movi r2 0x2000\nx: ldr r3 r2 0\naddi r3 r3 4\nstr r3 r2 0\nstx r0 r2 r3\nmovi r2 0x2000\nb al x"

func TestTurnsGoInOrder(t *testing.T) {
	w := made(t, 20, 3)
	w.loads(program(t, log, "thread 0x1000", "thread 0x1000", "share 0x2000 rw"), 0)
	w.loads(program(t, "addi r0 r0 1\naddi r0 r0 1\naddi r0 r0 1\naddi r0 r0 1\naddi r0 r0 1\naddi r0 r0 1\nsvc 0"), 1)
	w.wants([]host.Job{{Thread: 1, A: 11}, {Id: 1, A: 30}, {Thread: 0, A: 10}, {Thread: 1, A: 99}, {Thread: 2, A: 12}, {Id: 1, A: 40}}, 6, 4,
		host.Done{Code: api.CodeInterrupted, Turns: 4}, host.Done{Value: 36, Turns: 2}, host.Done{Code: api.CodeInterrupted, Turns: 4},
		host.Done{Err: api.ErrBusy}, host.Done{Code: api.CodeInterrupted, Turns: 4}, host.Done{Err: api.ErrBusy})
	for k, want := range []uint32{48, 11, 10, 12, 11, 10, 12, 11, 10, 12, 11, 10, 12, 0} {
		if v, _ := w.peek(0, 0, k); v != want {
			t.Errorf("P24.6: the entry %d of the log: %d; want %d", k, v, want)
		}
	}
	// They are interrupted still, and go on from there.
	w.wants([]host.Job{{Thread: 0}, {Thread: 1}, {Thread: 2}, {Thread: 3}}, 6, 4,
		host.Done{Err: api.ErrBusy}, host.Done{Err: api.ErrBusy}, host.Done{Err: api.ErrBusy}, host.Done{Err: api.ErrUnknown})
	w.goesOn(0, 2, 6, api.CodeInterrupted, 0)
	if v, _ := w.peek(0, 0, 13); v != 12 {
		t.Errorf("P24.6: the last entry of the log: %d", v)
	}
}

// Of jobs of one thread each that finds it free in its first turn has it: behind one that ended there, but not behind one that is interrupted still, also if that was its last turn.
func TestJobsOfOneThread(t *testing.T) {
	w := made(t, 8, 2)
	w.loads(program(t, "x: addi r0 r0 -1\ncmpi r0 0\nb ne x\nmov r0 r1\nsvc 0"), 0)
	one := func(rounds, tells uint32) host.Job { return host.Job{A: rounds, B: tells} }
	w.wants([]host.Job{one(1, 7), one(1, 8), one(100, 9), one(1, 10), one(1, 11)}, 5, 2,
		host.Done{Value: 7, Turns: 1}, host.Done{Value: 8, Turns: 1}, host.Done{Code: api.CodeInterrupted, Turns: 2}, host.Done{Err: api.ErrBusy}, host.Done{Err: api.ErrBusy})
	w.goesOn(0, 0, 1000, api.CodeOK, 9)
	w.wants([]host.Job{one(100, 7), one(1, 8)}, 5, 1, host.Done{Code: api.CodeInterrupted, Turns: 1}, host.Done{Err: api.ErrBusy})
	w.goesOn(0, 0, 1000, api.CodeOK, 7)
	// A job ends with an error at its first turn, though its thread is free in the next round.
	w.wants([]host.Job{one(2, 7), one(1, 8)}, 5, 3, host.Done{Value: 7, Turns: 2}, host.Done{Err: api.ErrBusy})
}

// How many turns a job has is what its fuel needs; one turn more or less at the bound.
func TestNumberOfTurns(t *testing.T) {
	w := made(t, 20, 3)
	w.loads(program(t, plus), 0)                   // 2 of fuel
	w.loads(program(t, "svc 1\nmov r0 r1"), 1)     // a fault in the third step, behind 64 and 1
	w.loads(program(t, "movi r0 3\nx: b al x"), 2) // never
	jobs := []host.Job{{Id: 0, A: 4}, {Id: 1}, {Id: 2}}
	interrupted := func(n int) host.Done { return host.Done{Code: api.CodeInterrupted, Turns: n} }
	fault := func(n int) host.Done { return host.Done{Code: api.CodeFault, Value: api.FaultCode, Turns: n} }
	again := func() {
		for id := range 3 {
			for w.goOn(id, 0, 100000).code == api.CodeInterrupted && id < 2 {
			}
		}
		w.drop(2)
	}
	w.wants(jobs, 64, 1, host.Done{Value: 5, Turns: 1}, interrupted(1), interrupted(1))
	again()
	w.loads(program(t, loop), 3)
	jobs[2].Id = 3
	w.wants(jobs, 65, 2, host.Done{Value: 5, Turns: 1}, fault(2), interrupted(2))
	w.wants(jobs[:2], 66, 1, host.Done{Value: 5, Turns: 1}, fault(1))
	w.wants(jobs[:2], 1, 4096, host.Done{Value: 5, Turns: 2}, interrupted(4096)) // 1 is never enough for the svc
	w.goesOn(1, 0, 66, api.CodeFault, api.FaultCode)
	w.wants(jobs[:2], 0, 7, interrupted(7), interrupted(7))
	w.goesOn(0, 0, 2, api.CodeOK, 5)
	w.goesOn(1, 0, 66, api.CodeFault, api.FaultCode)
	w.wants(jobs[:2], math.MinInt, 1, interrupted(1), interrupted(1))
	w.goesOn(0, 0, 2, api.CodeOK, 5)
	w.goesOn(1, 0, 66, api.CodeFault, api.FaultCode)
	w.wants(jobs[:2], math.MaxInt, 1, host.Done{Value: 5, Turns: 1}, fault(1))
}

// As many jobs and turns as there may be.
func TestMostJobsAndTurns(t *testing.T) {
	w := made(t, 64, 2)
	s := loop
	lines := slices.Repeat([]string{"thread 0x1000"}, 50)
	w.loads(program(t, s, lines...), 0)
	var jobs []host.Job
	var want []host.Done
	for k := range 256 {
		switch {
		case k%5 == 0:
			jobs = append(jobs, host.Job{Thread: k / 5})
			want = append(want, host.Done{Code: api.CodeInterrupted, Turns: 4096})
		case k%5 == 1:
			jobs = append(jobs, host.Job{Thread: k / 5})
			want = append(want, host.Done{Err: api.ErrBusy})
		default:
			jobs = append(jobs, host.Job{Id: k % 5, Thread: k - 300})
			want = append(want, host.Done{Err: api.ErrUnknown})
		}
	}
	jobs[255] = host.Job{Thread: 51} // the image has 51 threads: 0 to 50
	want[255] = host.Done{Err: api.ErrUnknown}
	w.wants(jobs, 3, 4096, want...)
}
