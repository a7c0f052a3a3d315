package host_test

import (
	"math"
	"testing"

	"warden/api"
	"warden/host"
)

// Each call that can't be is told so; neither the machine nor what is interrupted changes.
func TestRunAndGoRefused(t *testing.T) {
	w := made(t, 30, 4)
	w.loads(program(t, loop, "thread 0x1000"), 0)
	w.loads(parsed(t, "table 0\n"), 1)
	w.loads(program(t, plus), 2)
	w.drop(2)
	w.runs(host.Job{Thread: 1}, 5, api.CodeInterrupted, 0)
	for _, id := range []int{math.MinInt, -1, 0, 1, 2, 3, 1 << 32, math.MaxInt} {
		for _, thread := range odd() {
			run, goOn := api.ErrUnknown, api.ErrUnknown
			switch {
			case id == 0 && thread == 0:
				continue
			case id == 0 && thread == 1:
				run, goOn = api.ErrBusy, api.OK
			}
			meter := w.h.Machine().Meter()
			got := w.run(host.Job{Id: id, Thread: thread, A: 1, B: 2, C: 3}, 50)
			if got != (told{e: run}) || w.h.Machine().Meter() != meter {
				t.Errorf("P24.5: Run of the thread %d of %d: %+v; want %d", thread, id, got, run)
			}
			if again := w.goOn(id, thread, 50); again.e != goOn || goOn != api.OK && again != (told{e: goOn}) {
				t.Errorf("P24.5: Go of the thread %d of %d: %+v; want %d", thread, id, again, goOn)
			}
		}
	}
}

// The three arguments are r0 to r2, in this order.
func TestArguments(t *testing.T) {
	w := made(t, 8, 2)
	w.loads(program(t, "movi r4 10\nmul r0 r0 r4\nadd r0 r0 r1\nmul r0 r0 r4\nadd r0 r0 r2\nsvc 0"), 0)
	w.runs(host.Job{A: 1, B: 2, C: 3}, 100, api.CodeOK, 123)
	w.runs(host.Job{A: 0xffffffff}, 100, api.CodeOK, 0xffffff9c)
	w.runs(host.Job{C: 0xffffffff}, 100, api.CodeOK, 0xffffffff)
}

// A thread is interrupted from an interruption on up to another code: then Go alone may go on with it, else Run alone may begin it.
func TestInterruptedThreads(t *testing.T) {
	w := made(t, 12, 3)
	w.loads(program(t, "addi r0 r0 1\naddi r0 r0 1\naddi r0 r0 1\nsvc 0\nword 0", "thread 0x1010", "thread 0x1004"), 0)
	state := func(thread int, interrupted bool) {
		t.Helper()
		run, goOn := w.run(host.Job{Thread: thread, A: 1}, 1000), told{e: api.ErrState}
		if interrupted && run != (told{e: api.ErrBusy}) {
			t.Errorf("P24.5: Run of the interrupted thread %d: %+v", thread, run)
		}
		if !interrupted && (run.e != api.OK || w.goOn(0, thread, 1000) != goOn) {
			t.Errorf("P24.5: Run of the thread %d: %+v; or Go behind it isn't ErrState", thread, run)
		}
	}
	state(0, false)
	state(1, false)
	w.runs(host.Job{Thread: 0, A: 10}, 1, api.CodeInterrupted, 0)
	state(0, true)
	state(2, false)
	w.runs(host.Job{Thread: 2, A: 20}, 0, api.CodeInterrupted, 0)
	w.runs(host.Job{Thread: 1, A: 30}, -7, api.CodeInterrupted, 0)
	state(2, true)
	state(1, true)
	w.goesOn(0, 0, 2, api.CodeInterrupted, 0)
	w.goesOn(0, 0, math.MinInt, api.CodeInterrupted, 0)
	state(0, true)
	w.goesOn(0, 0, 1, api.CodeOK, 13)
	state(0, false)
	w.goesOn(0, 1, 1, api.CodeFault, api.FaultCode)
	state(1, false)
	state(2, true)
	w.goesOn(0, 2, math.MaxInt, api.CodeOK, 22)
	state(2, false)
}

// Every fault, and the code that the thread's own value looks like: the value alone tells them apart.
func TestEndsOfRuns(t *testing.T) {
	for source, want := range map[string]told{
		"word 0":                              {code: api.CodeFault, value: api.FaultCode},
		"movi r1 0x2000\nbr r1":               {code: api.CodeFault, value: api.FaultFetch},
		"movi r1 0x2000\nldr r0 r1 0\nsvc 0":  {code: api.CodeFault, value: api.FaultData},
		"movi r0 9\nsvc 0":                    {code: api.CodeOK, value: 9},
		"movi r0 10\nsvc 0":                   {code: api.CodeOK, value: 10},
		"svc 99\nsvc 0":                       {code: api.CodeOK, value: uint32(api.CodeCall)},
		"movi r1 0\nmovi r2 0\nsvc 3\nsvc 0":  {code: api.CodeOK, value: uint32(api.CodeSpare)},
		"addi r0 r0 -1\nsvc 0":                {code: api.CodeOK, value: 4},
		"x: addi r0 r0 -1\nb al x":            {code: api.CodeInterrupted},
		"svc 6\nmov r3 r1\nmov r0 r3\nsvc 0":  {code: api.CodeOK, value: 70},
		"movi r3 77\nsvc 1\nmov r0 r3\nsvc 2": {code: api.CodeInterrupted},
	} {
		w := made(t, 8, 2)
		w.loads(program(t, source), 0)
		if got := w.run(host.Job{A: 5}, 80); got != want {
			t.Errorf("P24.5: Run of %q: %+v; want %+v", source, got, want)
		}
	}
}

// What somebody else does with a thread doesn't count: the host's own calls tell whether it is interrupted, and what the monitor says is told.
func TestThreadsThatSomebodyElseRan(t *testing.T) {
	w := made(t, 8, 2)
	w.loads(program(t, loop), 0)
	w.foreign(17, 4, 0, 0, 0, 5)
	w.runs(host.Job{}, 5, api.CodeEntered, 0)
	if got := w.goOn(0, 0, 5); got != (told{e: api.ErrState}) {
		t.Errorf("P24.5: Go of a thread that others interrupted: %+v", got)
	}
	if got, _ := w.turns([]host.Job{{}}, 5, 3); got[0] != (host.Done{Code: api.CodeEntered, Turns: 1}) {
		t.Errorf("P24.6: Turns of a thread that others interrupted: %+v", got)
	}
	w.drop(0)
	w.loads(program(t, "svc 0"), 1)
	w.runs(host.Job{Id: 1, A: 6}, 0, api.CodeInterrupted, 0)
	w.foreign(18, 4, 0, 0, 0, 5)
	w.goesOn(1, 0, 5, api.CodeNotEntered, 0)
	w.runs(host.Job{Id: 1, A: 6}, 5, api.CodeOK, 6)
	w.foreign(19, 0, 0, 0, 0, 0)
	w.runs(host.Job{Id: 1, A: 6}, 5, api.CodeNotFinal, 0)
}
