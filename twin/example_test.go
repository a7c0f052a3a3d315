package twin_test

import (
	"slices"
	"testing"

	"warden/api"
	"warden/monitor"
	"warden/twin"
	"warden/view"
)

// chapter: the machine of the chapter's examples.
func chapter(t *testing.T) world {
	t.Helper()
	w := booted(t, 8, 4)
	w.lay(0, "movi r1 0x2000\nldr r0 r1 0\nsvc 0")
	w.does(api.CodeOK, 0, api.CallSpace, 0, 1)
	w.does(api.CodeOK, 0, api.CallTable, 0, 2, 0)
	w.does(api.CodeOK, 0, api.CallData, 0, 3, 0x1005, 0)
	w.write(0, 0, 5)
	w.does(api.CodeOK, 0, api.CallData, 0, 4, 0x2003, 0)
	w.does(api.CodeOK, 0, api.CallThread, 0, 5, 0x1000)
	w.does(api.CodeOK, 0, api.CallFinal, 0)
	return w
}

// planted: another one with other secrets; what it runs is what the first one runs.
func (w world) planted(draws ...uint32) *monitor.Monitor {
	w.Helper()
	n, e := view.Plant(w.m, 0, 1, draws)
	if e != api.OK {
		w.Fatalf("view.Plant: %d", e)
	}
	for off := range api.PageWords {
		n.DB().Memory().Write(secure(3), off, w.m.DB().Memory().Peek(secure(3), off))
	}
	return n
}

func TestExampleOne(t *testing.T) {
	w := chapter(t)
	for _, c := range []struct {
		s    twin.Step
		want twin.Row
	}{
		{twin.Step{Kind: twin.Write, V: 7, A: 0, B: 3}, twin.Row{}},
		{twin.Step{Kind: twin.Write, V: 7, A: 4, B: 0}, twin.Row{Err: api.ErrPage}},
		{twin.Step{Kind: twin.Set, A: 15}, twin.Row{Err: api.ErrArg}},
		{twin.Step{Kind: 3}, twin.Row{Err: api.ErrArg}},
		{twin.Step{Kind: twin.Call, V: 1}, twin.Row{Value: 0x57415244}},
		{twin.Step{Kind: twin.Call, V: 99}, twin.Row{Code: api.CodeCall}},
	} {
		if got := w.step(c.s); got != c.want {
			t.Errorf("P26.1: Do(%+v) = %+v; want %+v", c.s, got, c.want)
		}
	}
	if v, e := w.m.Read(0, 3); v != 7 || e != api.OK {
		t.Errorf("P26.1: the word is %d, %d", v, e)
	}
}

func TestExampleTwo(t *testing.T) {
	w := chapter(t)
	for _, c := range []struct {
		s     twin.Step
		birth int
		want  bool
	}{
		{twin.Step{Kind: twin.Call, V: 17, A: 5}, 0, true},
		{twin.Step{Kind: twin.Call, V: 18, A: 5}, 0, false},
		{twin.Step{Kind: twin.Call, V: 17, A: 0}, 0, false},
		{twin.Step{Kind: twin.Call, V: 17, A: 0x80000005}, 0, false},
		{twin.Step{Kind: twin.Call, V: 17, A: 5}, 1, false},
		{twin.Step{Kind: twin.Write, V: 17, A: 5}, 0, false},
	} {
		if got := w.runs(c.s, c.birth); got != c.want {
			t.Errorf("P26.2: Runs(%+v, %d) = %v", c.s, c.birth, got)
		}
	}
}

func TestExampleThree(t *testing.T) {
	w := chapter(t)
	n := w.planted()
	steps := []twin.Step{called(1), entered(5, 100), called(2)}
	w.ends("P26.3: a machine and itself", w.m, 0, steps, twin.Report{Step: 3})
	w.ends("P26.3: no steps", n, 0, nil, twin.Report{})
	w.ends("P26.3: the exit's value", n, 0, steps[:2], twin.Report{End: twin.Let, Step: 1})
	w.ends("P26.3: with a step behind", n, 0, steps, twin.Report{End: twin.Let, Step: 1})
	for _, all := range [][]twin.Step{steps[:2], steps} {
		if least, e := twin.Least(w.m, n, 0, all); !slices.Equal(least, steps[:2]) || e != api.OK {
			t.Errorf("P26.5: of %d steps: %d, %d", len(all), len(least), e)
		}
	}
}

func TestExampleFour(t *testing.T) {
	w := chapter(t)
	otherSeed := w.configured(func(c *monitor.Config) { c.Seed[7]++ })
	for _, c := range []struct {
		other *monitor.Monitor
		birth int
		steps []twin.Step
		want  api.Errno
	}{{w.planted(), 1, nil, api.ErrBroken}, {otherSeed, 0, nil, api.ErrConfig}, {w.m, 0, make([]twin.Step, 4097), api.ErrLong}} {
		if r, e := w.held(c.other, c.birth, c.steps); r != (twin.Report{}) || e != c.want {
			t.Errorf("P26.3: %+v, %d; want %d", r, e, c.want)
		}
	}
}

// configured: the same machine of another configuration.
func (w world) configured(turn func(*monitor.Config)) *monitor.Monitor {
	w.Helper()
	c, d := w.m.Config(), w.m.DB().Clone()
	turn(&c)
	n, e := monitor.Over(c, d, w.m.Registers())
	if e != api.OK {
		w.Fatalf("monitor.Over: %d", e)
	}
	return n
}
