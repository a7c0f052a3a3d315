package host_test

import (
	"slices"
	"testing"

	"warden/api"
	"warden/host"
)

func TestExample1(t *testing.T) {
	w := made(t, 8, 3)
	w.isFree(8, 2)
	e := program(t, plus)
	w.loads(e, 0)
	w.isFree(3, 2)
	w.hasPages(0, 0, 1, 2, 3, 4)
	if n, _ := w.h.Threads(0); n != 1 || !slices.Equal(w.h.Live(), []int{0}) {
		t.Errorf("P24.3: Threads(0): %d; Live: %v", n, w.h.Live())
	}
	if id, err := w.load(e); id != 0 || err != api.ErrFull {
		t.Errorf("P24.2: Load again: %d, %d", id, err)
	}
	if err := w.drop(0); err != api.OK {
		t.Errorf("P24.7: Drop(0): %d", err)
	}
	w.isFree(8, 2)
	if n, err := w.h.Threads(0); n != 0 || err != api.ErrUnknown {
		t.Errorf("P24.3: Threads(0) behind Drop: %d, %d", n, err)
	}
	w.loads(e, 1)
}

func TestExample2(t *testing.T) {
	w := made(t, 8, 3)
	e := program(t, plus)
	w.loads(e, 0)
	w.drop(0)
	w.loads(e, 1)
	w.runs(host.Job{Id: 1, A: 41}, 10, api.CodeOK, 42)
	if got := w.run(host.Job{Id: 1, Thread: 1, A: 41}, 10); got != (told{e: api.ErrUnknown}) {
		t.Errorf("P24.5: Run(1, 1, ..): %+v", got)
	}
	if got := w.goOn(1, 0, 10); got != (told{e: api.ErrState}) {
		t.Errorf("P24.5: Go(1, 0, 10): %+v", got)
	}
}

func TestExample3(t *testing.T) {
	w := made(t, 8, 3)
	e := program(t, loop)
	w.loads(e, 0)
	w.drop(0)
	w.loads(e, 1)
	w.runs(host.Job{Id: 1}, 5, api.CodeInterrupted, 0)
	if got := w.run(host.Job{Id: 1}, 5); got != (told{e: api.ErrBusy}) {
		t.Errorf("P24.5: Run again: %+v", got)
	}
	w.goesOn(1, 0, 5, api.CodeInterrupted, 0)
	if got, err := w.turns([]host.Job{{Id: 1}}, 5, 3); !slices.Equal(got, []host.Done{{Err: api.ErrBusy}}) || err != api.OK {
		t.Errorf("P24.6: Turns: %+v, %d", got, err)
	}
	w.drop(1)
	w.loads(e, 2)
	want := []host.Done{{Code: api.CodeInterrupted, Turns: 3}, {Err: api.ErrBusy}, {Err: api.ErrUnknown}}
	if got, err := w.turns([]host.Job{{Id: 2}, {Id: 2}, {Id: 9}}, 5, 3); !slices.Equal(got, want) || err != api.OK {
		t.Errorf("P24.6: Turns: %+v, %d; want %+v", got, err, want)
	}
}

func TestExample4(t *testing.T) {
	w := made(t, 8, 3)
	for _, x := range []struct {
		jobs, most int
		e          api.Errno
	}{{0, 0, api.ErrArg}, {257, 4097, api.ErrArg}, {257, 1, api.ErrLong}, {0, 1, api.OK}} {
		if got, err := w.turns(make([]host.Job, x.jobs), 5, x.most); len(got) != 0 || err != x.e {
			t.Errorf("P24.6: Turns of %d jobs, %d: %+v, %d; want %d", x.jobs, x.most, got, err, x.e)
		}
	}
}

func TestExample5(t *testing.T) {
	w := made(t, 8, 3)
	w.loads(program(t, plus), 0)
	if err := w.grow(0); err != api.OK {
		t.Errorf("P24.7: Grow(0): %d", err)
	}
	w.hasPages(0, 0, 1, 2, 3, 4, 5)
	if h, err := host.New(booted(t, 8, 1)); h != nil || err != api.ErrConfig {
		t.Errorf("P24.1: New over a machine with one insecure page: %v, %d", h, err)
	}
	taken := booted(t, 8, 3)
	taken.Do(10, 0, 1, 0, 0, 0)
	if h, err := host.New(taken); h != nil || err != api.ErrState {
		t.Errorf("P24.1: New over a machine with a space: %v, %d", h, err)
	}
}
