package twin_test

import (
	"math"
	"testing"

	"warden/api"
	"warden/twin"
)

// words: around all that a number may be asked for.
func words() []uint32 {
	return []uint32{0, 1, 2, 3, 4, 5, 14, 15, 16, 1022, 1023, 1024, 1 << 16, 0x7fffffff, 0x80000000, 0x80000003, 0xfffffffe, 0xffffffff}
}

func TestWritesAndSettings(t *testing.T) {
	w := booted(t, 2, 4)
	for _, a := range words() {
		for _, b := range words() {
			r := w.step(twin.Step{Kind: twin.Write, V: a*1000 + b + 1, A: a, B: b})
			want := api.OK
			switch {
			case a > 3:
				want = api.ErrPage
			case b > 1023:
				want = api.ErrRange
			}
			if r != (twin.Row{Err: want}) {
				t.Errorf("P26.1: a write to the word %d of page %d: %+v", b, a, r)
			}
			r = w.step(twin.Step{Kind: twin.Set, V: a*1000 + b + 2, A: a, B: b})
			if want := a > 14; (r.Err == api.ErrArg) != want || r.Code != 0 || r.Value != 0 {
				t.Errorf("P26.1: the register %d: %+v", a, r)
			}
		}
	}
}

// What a step's kind doesn't use may be anything.
func TestFieldsThatAreNotUsed(t *testing.T) {
	w := booted(t, 2, 4)
	full := twin.Step{V: 9, A: 3, B: 7, C: 0xffffffff, D: 17, Fuel: math.MinInt}
	for kind, page := range []int{0, 1, 2} {
		s := full
		s.Kind = twin.Kind(kind)
		if r := w.step(s); r.Err != api.OK || (r.Code == api.CodeCall) != (page == 2) {
			t.Errorf("P26.1: %+v: %+v", s, r)
		}
	}
	if v, _ := w.m.Read(3, 7); v != 9 {
		t.Errorf("P26.1: the word is %d", v)
	}
}

func TestOtherKinds(t *testing.T) {
	w := town(t)
	for _, kind := range []twin.Kind{3, 4, -1, -2, 255, 256, 257, 258, 1 << 32, 1<<32 + 1, math.MinInt, math.MaxInt} {
		w.unchanged("another kind", func() {
			if r := w.step(twin.Step{Kind: kind, V: 17, A: 5, Fuel: 100}); r != (twin.Row{Err: api.ErrArg}) {
				t.Errorf("P26.1: the kind %d: %+v", kind, r)
			}
		}, w.m)
	}
}

// Every number of a call, its four arguments, and its fuel, are handed on as they are.
func TestCalls(t *testing.T) {
	w := booted(t, 16, 4)
	w.lay(1, "add r0 r0 r1\nadd r0 r0 r2\nsvc 0")
	for _, s := range []twin.Step{called(10, 6, 3), called(12, 6, 4, 0), called(13, 6, 5, 0x1005, 1), called(14, 6, 0x2003, 2), called(11, 6, 7, 0x1004), called(15, 6, 8), called(16, 6)} {
		if r := w.step(s); r != (twin.Row{}) {
			t.Fatalf("P26.1: %+v: %+v", s, r)
		}
	}
	run := twin.Step{Kind: twin.Call, V: 17, A: 7, B: 100, C: 20, D: 3}
	for fuel, want := range map[int]twin.Row{0: {Code: api.CodeInterrupted}, -1: {Code: api.CodeInterrupted}, 1: {Code: api.CodeInterrupted}, 2: {Value: 103}, math.MaxInt: {Value: 103}} {
		c := w.with(7, 0, 0x1004)
		s := run
		s.Fuel = fuel
		if r := (world{t, c, w.seen}).step(s); r != want {
			t.Errorf("P26.1: with the fuel %d: %+v; want %+v", fuel, r, want)
		}
	}
	for n := range uint32(24) {
		w.step(twin.Step{Kind: twin.Call, V: n, A: 6, B: 8, C: 9, D: 1, Fuel: 5})
	}
	for _, n := range words() {
		w.step(twin.Step{Kind: twin.Call, V: n, A: n, B: n, C: n, D: n, Fuel: int(n)})
	}
}

func TestRows(t *testing.T) {
	w := chapter(t)
	w.write(0, 0, 0)
	steps := []twin.Step{entered(5, 1), entered(5, 9), resumed(5, 9), {Kind: twin.Write, A: 9}, {Kind: 7}, called(99), {Kind: twin.Set, A: 3, V: 4}, resumed(5, 9)}
	want := []twin.Row{{Code: api.CodeInterrupted}, {Code: api.CodeEntered}, {Value: 5}, {Err: api.ErrPage}, {Err: api.ErrArg}, {Code: api.CodeCall}, {}, {Code: api.CodeNotEntered}}
	rows, e := twin.Trace(w.m, steps)
	if e != api.OK || len(rows) != len(want) {
		t.Fatalf("P26.4: %v, %d", rows, e)
	}
	for k, row := range rows {
		if row != want[k] {
			t.Errorf("P26.4: the row %d: %+v; want %+v", k, row, want[k])
		}
	}
	for k := range steps {
		w.trace(steps[:k])
	}
}

func TestLongTraces(t *testing.T) {
	w := booted(t, 1, 1)
	for _, n := range []int{0, 1, 4095, 4096} {
		rows, e := twin.Trace(w.m, make([]twin.Step, n))
		if len(rows) != n || e != api.OK {
			t.Errorf("P26.4: of %d steps: %d rows, %d", n, len(rows), e)
		}
	}
	for _, n := range []int{4097, 5000} {
		if rows, e := twin.Trace(w.m, make([]twin.Step, n)); rows != nil || e != api.ErrLong {
			t.Errorf("P26.4: of %d steps: %d rows, %d", n, len(rows), e)
		}
	}
	w.trace(make([]twin.Step, 4096))
}
