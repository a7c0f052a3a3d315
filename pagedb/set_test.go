package pagedb_test

import (
	"fmt"
	"testing"

	"warden/api"
	"warden/entry"
	"warden/pagedb"
)

func TestExampleFive(t *testing.T) {
	d := pagedb.New(memory(t, 4))
	errno(t, "TakeSpace(1, 3)", d.TakeSpace(1, 3), api.OK)
	for _, step := range []struct {
		to    entry.State
		want  api.Errno
		state entry.State
	}{
		{entry.Init, api.ErrState, entry.Init},
		{entry.Final, api.OK, entry.Final},
		{entry.Final, api.ErrState, entry.Final},
		{entry.Stopped, api.OK, entry.Stopped},
		{entry.Stopped, api.OK, entry.Stopped},
		{entry.Final, api.ErrState, entry.Stopped},
		{entry.None, api.ErrState, entry.Stopped},
	} {
		errno(t, fmt.Sprintf("P12.7: SetState(1, %d)", step.to), d.SetState(1, step.to), step.want)
		entryIs(t, d, 1, entry.Entry{Type: entry.Space, Owner: 1, Refs: 1, State: step.state})
	}
	errno(t, "P12.7: SetState(0, Final)", d.SetState(0, entry.Final), api.ErrType)
}

// TestStates: from each state to each number.
func TestStates(t *testing.T) {
	for from := entry.Init; from <= entry.Stopped; from++ {
		for _, to := range []entry.State{-1 << 40, -1, 0, 1, 2, 3, 4, 5, 1<<32 + 2, 1<<32 + 3} {
			d, p := both(t, 2)
			errno(t, "TakeSpace(1, 0)", d.TakeSpace(1, 0), p.takeSpace(1, 0))
			d.SetState(1, from)
			p.setState(1, from)
			alike(t, "ahead", d, p)
			errno(t, fmt.Sprintf("P12.7: SetState(1, %d) from %d", to, from), d.SetState(1, to), p.setState(1, to))
			alike(t, "behind", d, p)
		}
	}
}

func TestEntered(t *testing.T) {
	d := pagedb.New(memory(t, 4))
	errno(t, "TakeSpace(1, 3)", d.TakeSpace(1, 3), api.OK)
	errno(t, "Take(2, Thread, 1)", d.Take(2, entry.Thread, 1), api.OK)
	entryIs(t, d, 2, entry.Entry{Type: entry.Thread, Owner: 1})
	for _, on := range []bool{true, true, false, false, true} {
		errno(t, fmt.Sprintf("P12.7: SetEntered(2, %t)", on), d.SetEntered(2, on), api.OK)
		entryIs(t, d, 2, entry.Entry{Type: entry.Thread, Owner: 1, Entered: on})
	}
	for _, page := range []int{0, 1, 3} {
		errno(t, fmt.Sprintf("P12.7: SetEntered(%d, true)", page), d.SetEntered(page, true), api.ErrType)
	}
	for _, page := range []int{-1, 4, 1<<32 + 2} {
		errno(t, fmt.Sprintf("P12.7: SetEntered(%d, true)", page), d.SetEntered(page, true), api.ErrPage)
	}
	errno(t, "Give(2)", d.Give(2), api.OK)
	errno(t, "Take(2, Thread, 1)", d.Take(2, entry.Thread, 1), api.OK)
	entryIs(t, d, 2, entry.Entry{Type: entry.Thread, Owner: 1})
}
