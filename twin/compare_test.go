package twin_test

import (
	"runtime"
	"slices"
	"testing"

	"warden/api"
	"warden/monitor"
	"warden/twin"
)

// reads: the secret into r2.
const reads = "movi r1 0x2000\nldr r2 r1 0\n"

func through(steps int) twin.Report { return twin.Report{End: twin.Through, Step: steps} }

func let(step int) twin.Report { return twin.Report{End: twin.Let, Step: step} }

func parted(step int, part string) twin.Report {
	return twin.Report{End: twin.Parted, Step: step, Part: part}
}

// Whatever an enclave lets out by which its secret is told, in whichever way, ends it there; at no step ahead of that one.
func TestWhatIsLetOut(t *testing.T) {
	for what, source := range map[string]string{
		"the value":             reads + "mov r0 r2\nsvc 0",
		"a shared page":         reads + "movi r1 0x3000\nstr r2 r1 8\nmovi r0 0\nsvc 0",
		"a page, for a while":   reads + "movi r1 0x3000\nstr r2 r1 8\nx: b al x",
		"exit or fault":         reads + "movi r0 3\ncmpi r2 5\nb eq x\nstr r0 r0 0\nx: svc 0",
		"exit or interrupt":     reads + "movi r0 0\ncmpi r2 5\nb eq x\ny: b al y\nx: svc 0",
		"interrupt or fault":    reads + "cmpi r2 5\nb eq x\ny: b al y\nx: word 0",
		"which fault":           reads + "cmpi r2 5\nb eq x\nword 0\nx: str r0 r0 0",
		"a page that is turned": reads + "cmpi r2 5\nb eq x\nmovi r1 6\nmovi r2 0x4003\nsvc 3\nx: movi r0 0\nsvc 0",
		"a table that is had":   reads + "cmpi r2 5\nb eq x\nmovi r1 6\nmovi r2 9\nsvc 5\nx: movi r0 0\nsvc 0",
		"where a table stands":  reads + "movi r1 6\nsvc 5\nmovi r0 0\nsvc 0",
		"a tag":                 "movi r9 0x2000\nldr r1 r9 0\nmovi r2 0\nsvc 1\nmov r0 r1\nsvc 0",
	} {
		w, n := secrets(t, source)
		steps := []twin.Step{called(1), {Kind: twin.Set, V: 7, A: 9}, entered(threadPage, 200), called(2)}
		for k := range steps {
			want := through(k)
			if k > 2 {
				want = let(2)
			}
			w.ends("P26.3: "+what, n, 0, steps[:k], want)
		}
		w.ends("P26.3: "+what, n, 0, steps, let(2))
		w.ends("P26.3: nothing of a machine is its own secret: "+what, w.m, 0, steps, through(4))
	}
}

// What stays with the enclave ends nothing, whoever is asked for it.
func TestWhatIsNotLetOut(t *testing.T) {
	for what, source := range map[string]string{
		"kept":                reads + "add r2 r2 r2\nstr r2 r1 4\nmovi r0 9\nsvc 0",
		"in a register":       reads + "mov r0 r2\nx: b al x",
		"how many draws":      reads + "cmpi r2 5\nb eq x\nsvc 6\nsvc 6\nx: movi r0 0\nsvc 0",
		"in which turn":       reads + "add r3 r2 r2\ncmpi r2 5\nb eq x\nadd r4 r4 r4\nx: add r5 r5 r5\nmovi r0 0\nsvc 0",
		"where it stands":     reads + "cmpi r2 5\nb eq x\nx: b al y\ny: b al x",
		"by a call refused":   reads + "mov r1 r2\nsvc 4\nmovi r0 0\nsvc 0",
		"an empty word to it": reads + "movi r1 0x3000\nsub r2 r2 r2\nstr r2 r1 8\nmovi r0 0\nsvc 0",
	} {
		w, n := secrets(t, source)
		steps := []twin.Step{entered(threadPage, 3), resumed(threadPage, 2), resumed(threadPage, 0), entered(threadPage, 9), resumed(threadPage, 100), called(3)}
		w.ends("P26.7: "+what, n, 0, steps, through(6))
		w.ends("P26.7: "+what, n, 0, append(steps, called(19, 0), called(20, dataPage), called(20, threadPage)), through(9))
	}
}

// An enclave that lets its secret out at the second turn; and one that does so where it is resumed.
func TestAtWhichStep(t *testing.T) {
	w, n := secrets(t, reads+"movi r1 0x3000\nldr r3 r1 0\ncmpi r3 1\nmovi r0 0\nb ne x\nmov r0 r2\nx: svc 0")
	turn := twin.Step{Kind: twin.Write, V: 1, A: 1}
	w.ends("P26.3: an enter", n, 0, []twin.Step{entered(5, 99), entered(5, 99), turn, called(1), entered(5, 99), entered(5, 99)}, let(4))
	w.ends("P26.3: a resume", n, 0, []twin.Step{entered(5, 2), resumed(5, 0), turn, resumed(5, 99), entered(5, 99)}, let(3))
	w.ends("P26.3: never", n, 0, []twin.Step{entered(5, 99), entered(5, 2), resumed(5, 99), turn}, through(4))
}

// What is asked ahead of the step is whether it runs the enclave: a refused one lets nothing out.
func TestStepsThatRunNothing(t *testing.T) {
	w, n := secrets(t, reads+"mov r0 r2\nsvc 0")
	steps := []twin.Step{resumed(5, 99), entered(4, 99), entered(0, 99), {Kind: 3, V: 17, A: 5, Fuel: 99}, {Kind: twin.Write, V: 17, A: 5, Fuel: 99}, {Kind: twin.Set, V: 17, A: 5, Fuel: 99}, entered(5+1<<16, 99), entered(5, 2), entered(5, 99), called(19, 0), resumed(5, 99), entered(5, 99)}
	w.ends("P26.3: refused", n, 0, steps, through(len(steps)))
}

// beside: another enclave, of birth 1, that sees the first one's data page at 0x6000, as no valid machine has it.
func beside(t *testing.T, source string, secret uint32) (world, *monitor.Monitor) {
	t.Helper()
	w := booted(t, 16, 4)
	w.raise(0, "x: b al x", 1, 5)
	w.raise(7, source, 2, 0)
	w.m = w.with(9, 6, dataPage<<8|3)
	return w, w.with(dataPage, 0, secret)
}

// Where nothing of the enclave is run and what is seen parts: so it can be only where the machine isn't valid.
func TestParts(t *testing.T) {
	spy := "movi r1 0x6000\nldr r2 r1 0\n"
	for _, c := range []struct{ source, part string }{
		{spy + "mov r0 r2\nsvc 0", "register 1"},
		{spy + "movi r1 0x3000\nstr r2 r1 40\nmovi r0 0\nsvc 0", "insecure 2 word 10"},
		{spy + "movi r1 0x2000\nstr r2 r1 40\nmovi r0 0\nsvc 0", "page 11 word 10"},
		{spy + "mov r0 r2\nx: b al x", "page 12 word 1"},
		{spy + "cmpi r2 5\nb eq x\nmovi r1 13\nmovi r2 0x4003\nsvc 3\nx: movi r0 0\nsvc 0", "page 9 word 4"},
		{spy + "cmpi r2 5\nb eq x\nmovi r1 13\nmovi r2 9\nsvc 5\nx: movi r0 0\nsvc 0", "page 8 word 9"},
		{spy + "movi r0 3\ncmpi r2 5\nb eq x\nsvc 0\nx: str r0 r0 0", "register 0"},
	} {
		w, n := beside(t, c.source, 6)
		steps := []twin.Step{called(1), entered(5, 9), resumed(5, 9), entered(12, 99), called(1)}
		w.ends("P26.3", n, 0, steps[:3], through(3))
		w.ends("P26.3", n, 0, steps, parted(3, c.part))
		// Nobody else's secret is told by it, but nothing is hidden of one that isn't there.
		if _, e := w.held(n, 1, steps); e != api.ErrBroken {
			t.Errorf("P26.3: the birth 1: %d", e)
		}
	}
}

// An enclave that lays its secret where it may not lay anything: that isn't let out, but seen.
func TestPartsWhereItRan(t *testing.T) {
	w, _ := secrets(t, reads+"movi r1 0x6000\nstr r2 r1 40\nmovi r0 0\nsvc 0")
	w.raise(7, "svc 0", 2, 0)
	w.m = w.with(2, 6, 11<<8|7)
	n := w.with(dataPage, 0, 6)
	w.ends("P26.3: another's page", n, 0, []twin.Step{called(1), entered(5, 99), called(1)}, parted(1, "page 11 word 10"))
	// Where both is so, it is let out.
	w, _ = secrets(t, reads+"movi r1 0x6000\nstr r2 r1 40\nmov r0 r2\nsvc 0")
	w.raise(7, "svc 0", 2, 0)
	w.m = w.with(2, 6, 11<<8|7)
	n = w.with(dataPage, 0, 6)
	w.ends("P26.3: another's page, and the value", n, 0, []twin.Step{called(1), entered(5, 99), called(1)}, let(1))
}

// An enclave that may write its own space's page, and makes its birth another one.
func TestOfAnEnclaveThatGoes(t *testing.T) {
	w, _ := secrets(t, reads+"movi r1 0x6000\nstr r2 r1 4\nmovi r0 0\nsvc 0")
	w.m = w.with(2, 6, 7)
	steps := []twin.Step{called(1), entered(5, 99), called(1)}
	for _, c := range []struct {
		first, second uint32
		want          twin.Report
	}{
		{0, 6, let(1)},
		{6, 0, let(1)},
		{5, 6, parted(1, "page 0 word 1")},
		{0, 0, through(3)},
		{5, 5, parted(1, "page 4 word 9")},
	} {
		a := world{t, w.with(dataPage, 0, c.first), w.seen}
		b := world{t, w.with(dataPage, 0, c.second), w.seen}
		a.ends("P26.3: an enclave that isn't there any more", b.with(dataPage, 9, 77), 0, steps, c.want)
	}
}

// Of a birth that isn't there yet: its stream is what differs.
func TestOfABirthToCome(t *testing.T) {
	draws := [][]uint32{{1, 2}, {3, 4}}
	source := "movi r1 0x2000\nsvc 6\nmov r0 r1\nsvc 0"
	w := booted(t, 16, 4, draws...)
	n := booted(t, 16, 4, []uint32{1, 2}, []uint32{3, 5})
	w.raise(7, source, 1, 0)
	n.raise(7, source, 1, 0)
	steps := []twin.Step{called(10, 0, 1), called(12, 0, 2, 0), called(13, 0, 3, 0x1005, 3), called(11, 0, 5, 0x1000), called(16, 0), entered(5, 99), entered(12, 99), entered(5, 99), entered(5, 99)}
	for _, machine := range []world{w, n} {
		machine.lay(3, source)
	}
	w.ends("P26.3: the second draw", n.m, 1, steps, let(7))
	if _, e := w.held(n.m, 0, steps); e != api.ErrConfig {
		t.Errorf("P26.3: %d", e)
	}
	// Seen by all but an enclave that never comes.
	w.ends("P26.3: a birth that never comes", w.m, -1, steps, through(9))
	w.ends("P26.3: a birth that never comes", w.m, 1<<40, steps, through(9))
}

// What parts ahead of the first step, whatever it is; what is hidden doesn't.
func TestPartsAtTheBeginning(t *testing.T) {
	w := town(t)
	other := func(turn func(m *monitor.Monitor)) *monitor.Monitor {
		c := w.m.Clone()
		turn(c)
		return c
	}
	lays := func(page, off int) *monitor.Monitor { return w.with(page, off, 0x1234567) }
	for what, n := range map[string]*monitor.Monitor{
		"a register":          other(func(m *monitor.Monitor) { m.SetRegister(14, 1) }),
		"an insecure page":    other(func(m *monitor.Monitor) { m.Write(3, 1023, 1) }),
		"a free page":         lays(31, 1023),
		"a table":             lays(2, 0),
		"a space's page":      lays(0, 1023),
		"another's data":      lays(11, 9),
		"another's thread":    lays(26, 3),
		"another's draws":     lays(7, 2),
		"births":              other(func(m *monitor.Monitor) { m.DB().TakeSpace(30, 31) }),
		"an entry":            other(func(m *monitor.Monitor) { m.DB().Turn(6, 5) }),
		"an entry of its own": other(func(m *monitor.Monitor) { m.DB().SetEntered(5, true) }),
	} {
		for _, steps := range [][]twin.Step{nil, {called(1)}} {
			if r, e := w.held(n, 1, steps); r != (twin.Report{}) || e != api.ErrBroken {
				t.Errorf("P26.3: %s: %+v, %d", what, r, e)
			}
		}
	}
	for what, n := range map[string]*monitor.Monitor{"data": lays(4, 9), "a thread": lays(5, 3), "draws": lays(0, 2), "the program": lays(3, 0)} {
		w.ends("P26.3: its own "+what, n, 1, []twin.Step{called(1)}, through(1))
	}
}

func TestErrorsInTheirOrder(t *testing.T) {
	w := chapter(t)
	seen := w.configured(func(c *monitor.Config) { c.Seed[0]++ })
	seen.SetRegister(3, 4)
	parts := w.m.Clone()
	parts.SetRegister(3, 4)
	long := make([]twin.Step, 4097)
	for _, c := range []struct {
		n     *monitor.Monitor
		steps []twin.Step
		want  api.Errno
	}{
		{seen, long, api.ErrLong}, {parts, long, api.ErrLong}, {w.m, long, api.ErrLong},
		{seen, long[:4096], api.ErrConfig}, {seen, nil, api.ErrConfig},
		{parts, long[:4096], api.ErrBroken}, {parts, nil, api.ErrBroken},
		{w.m, long[:4096], api.OK}, {w.m, nil, api.OK},
	} {
		r, e := w.held(c.n, 0, c.steps)
		if e != c.want || e != api.OK && r != (twin.Report{}) || e == api.OK && r != through(len(c.steps)) {
			t.Errorf("P26.3: %d steps: %+v, %d; want %d", len(c.steps), r, e, c.want)
		}
	}
}

// Which of the two is the first one doesn't matter; nor how often it is asked.
func TestEitherWay(t *testing.T) {
	w, n := secrets(t, reads+"mov r0 r2\nsvc 0")
	other := world{t, n, w.seen}
	steps := []twin.Step{called(1), entered(5, 99)}
	for range 20 {
		w.ends("rule 6", n, 0, steps, let(1))
		other.ends("rule 6", w.m, 0, steps, let(1))
	}
}

// A script as long as may be that ends at its last step.
func TestTheLastStep(t *testing.T) {
	w := chapter(t)
	n := w.with(4, 0, 6)
	steps := append(make([]twin.Step, 4095), entered(5, 99))
	w.ends("P26.3: the last step of 4096", n, 0, steps, let(4095))
	if least, _ := twin.Least(w.m, n, 0, steps); !slices.Equal(least, steps) {
		t.Errorf("P26.5: %d steps", len(least))
	}
}

// However it ends, nobody goes on working: also where one of the two has much before it yet.
func TestWorkersHaveEnded(t *testing.T) {
	w, n := secrets(t, reads+"cmpi r2 5\nb eq x\nmovi r0 1\nsvc 0\nx: b al x")
	steps := slices.Repeat([]twin.Step{entered(5, 100000), resumed(5, 100000)}, 2048)
	before := runtime.NumGoroutine()
	for range 20 {
		twin.Compare(w.m, n, 0, steps[:0])
		twin.Compare(w.m, n, 0, steps[:1])
		twin.Compare(w.m, n, 1, steps)
	}
	w.ends("P26.3: 4096 steps of much work", n, 0, steps, let(0))
	// A worker that has said that it ends may still be on its way out when the call answers, but not each time.
	for range 30 {
		twin.Compare(w.m, n, 0, steps)
		for range 20 {
			if runtime.NumGoroutine() <= before {
				return
			}
			runtime.Gosched()
		}
	}
	t.Errorf("P26.6: %d goroutines ahead, %d behind", before, runtime.NumGoroutine())
}
