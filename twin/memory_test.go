package twin_test

import (
	"slices"
	"testing"

	"warden/api"
	"warden/twin"
)

// marked: a step that is no other one.
func marked(n int) twin.Step { return twin.Step{Kind: 9, A: uint32(n)} }

// roomy: the steps, and behind them room in which others stand.
func roomy(steps ...twin.Step) []twin.Step {
	room := slices.Clone(steps)
	for n := range 5 {
		room = append(room, marked(n))
	}
	return room[:len(steps)]
}

// The steps that are handed in, and the room behind them, stay as they are.
func TestStepsStay(t *testing.T) {
	w, n := secrets(t, reads+"mov r0 r2\nsvc 0")
	steps := roomy(called(1), entered(5, 99), called(2))
	was := slices.Clone(steps[:cap(steps)])
	twin.Compare(w.m, n, 0, steps)
	twin.Trace(w.m, steps)
	least, _ := twin.Least(w.m, n, 0, steps)
	_ = append(least, marked(99))
	whole, _ := twin.Least(w.m, w.m, 0, steps)
	_ = append(whole, marked(99))
	if !slices.Equal(steps[:cap(steps)], was) {
		t.Errorf("P26.6: the steps are %+v; were %+v", steps[:cap(steps)], was)
	}
}

// What is answered is the caller's.
func TestAnswersAreNew(t *testing.T) {
	w, n := secrets(t, reads+"mov r0 r2\nsvc 0")
	steps := roomy(called(1), entered(5, 99), called(2))
	for _, other := range []world{w, {t, n, w.seen}} {
		least, _ := twin.Least(w.m, other.m, 0, steps)
		again, _ := twin.Least(w.m, other.m, 0, steps)
		for k := range least[:cap(least)] {
			least[:cap(least)][k] = marked(k)
		}
		if !slices.Equal(again, steps[:len(again)]) || steps[0] != called(1) || steps[1] != entered(5, 99) || steps[2] != called(2) {
			t.Errorf("P26.6: what is answered is kept: %+v, %+v", again, steps)
		}
	}
	rows, _ := twin.Trace(w.m, steps)
	again, _ := twin.Trace(w.m, steps)
	for k := range rows[:cap(rows)] {
		rows[:cap(rows)][k] = twin.Row{Err: api.ErrArg}
	}
	if slices.Contains(again, twin.Row{Err: api.ErrArg}) {
		t.Errorf("P26.6: the rows are kept: %+v", again)
	}
	w.trace(steps)
}

// No list and an empty one are the same.
func TestNoSteps(t *testing.T) {
	w, n := secrets(t, reads+"mov r0 r2\nsvc 0")
	for _, steps := range [][]twin.Step{nil, {}} {
		w.ends("rule 4", n, 0, steps, through(0))
		least, e := twin.Least(w.m, n, 0, steps)
		rows, f := twin.Trace(w.m, steps)
		if len(least) != 0 || e != api.OK || len(rows) != 0 || f != api.OK {
			t.Errorf("rule 4: %v, %d; %v, %d", least, e, rows, f)
		}
	}
}

// The machines go on from where they were, by themselves, whatever was done on their clones; also where both are one.
func TestMachinesStay(t *testing.T) {
	w := town(t)
	steps := []twin.Step{called(19, 7), called(20, 12), entered(5, 99), {Kind: twin.Write, V: 3, A: 2, B: 2}, {Kind: twin.Set, V: 3, A: 2}, called(10, 29, 30)}
	for birth := -1; birth < 6; birth++ {
		w.ends("P26.6: one machine", w.m, birth, steps, through(6))
		w.ends("P26.6: its clone", w.m.Clone(), birth, steps, through(6))
		w.trace(steps)
	}
	for _, s := range steps {
		w.step(s)
	}
}
