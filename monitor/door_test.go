package monitor_test

import (
	"math"
	"math/rand"
	"slices"
	"testing"

	"warden/api"
	"warden/attest"
	"warden/monitor"
)

func TestRegisters(t *testing.T) {
	w := of(t, 4, 2)
	meter := w.m.Meter()
	var want [15]uint32
	for _, r := range rand.New(rand.NewSource(21)).Perm(15) {
		want[r] = uint32(r+1) * 0x11111111
		if e := w.m.SetRegister(r, want[r]); e != api.OK || w.m.Registers() != want {
			t.Errorf("P21.3: SetRegister(%d): %d, %#x", r, e, w.m.Registers())
		}
	}
	for _, r := range []int{math.MinInt, -1, 15, 16, 1 << 32, 1<<32 + 3, math.MaxInt} {
		if e := w.m.SetRegister(r, 9); e != api.ErrArg || w.m.Registers() != want {
			t.Errorf("P21.3: SetRegister(%d): %d, %#x", r, e, w.m.Registers())
		}
	}
	told := w.m.Registers()
	told[3] = 0
	if w.m.Registers() != want || w.m.Meter() != meter {
		t.Errorf("P21.10, P21.6: what is told is kept; or %d words are touched", w.m.Meter()-meter)
	}
	w.plain.r = want
	w.same("P21.3: SetRegister")
}

// The system's words: each is read and written alone, and no secure page is within its reach.
func TestPages(t *testing.T) {
	w := of(t, 5, 3)
	numbers := []int{math.MinInt, -1025, -1, 0, 1, 2, 3, 4, 5, 64, 1023, 1024, 1025, 1 << 32, math.MaxInt}
	for _, page := range numbers {
		for _, off := range numbers {
			want := api.OK
			switch {
			case page < 0 || page > 2:
				want = api.ErrPage
			case off < 0 || off > 1023:
				want = api.ErrRange
			}
			meter := w.m.Meter()
			if e := w.m.Write(page, off, uint32(page*5000+off+1)); e != want {
				t.Errorf("P21.3: Write(%d, %d): %d; want %d", page, off, e, want)
			}
			v, e := w.m.Read(page, off)
			touched := w.m.Meter() - meter
			if e != want || e == api.OK && (v != uint32(page*5000+off+1) || touched != 2) || e != api.OK && (v != 0 || touched != 0) {
				t.Errorf("P21.3: Read(%d, %d): %d, %d; want %d; %d words touched", page, off, v, e, want, touched)
			}
			if e == api.OK {
				w.plain.d.Memory().Write(insecure(page), off, v)
				w.plain.d.Memory().Read(insecure(page), off)
			}
			w.same("P21.3: Write and Read")
		}
	}
}

// Each touches one word: not two of them none and two.
func TestReadAndWriteTouchOne(t *testing.T) {
	m := made(t, monitor.Config{Secure: 1, Insecure: 1})
	m.Write(0, 5, 6)
	if m.Meter() != 1025 {
		t.Errorf("P21.3: Write touches %d words", m.Meter()-1024)
	}
	m.Read(0, 5)
	if m.Meter() != 1026 {
		t.Errorf("P21.3: Read touches %d words", m.Meter()-1025)
	}
}

// Every number but the fourteen is no call, whatever stands in the other registers; none of them does anything.
func TestNumbers(t *testing.T) {
	w := settled(t)
	known := []uint32{1, 2, 3, 10, 11, 12, 13, 14, 15, 16, 17, 18, 19, 20}
	numbers := []uint32{100, 255, 256, 257, 1 << 16, 1<<16 + 10, 1 << 31, 1<<31 + 10, 0xffffff00 + 10, 0xfffffff6, 0xffffffff}
	for n := range uint32(64) {
		numbers = append(numbers, n)
	}
	for _, n := range numbers {
		code, value := w.do(5, n, 13, 13, 0, 0)
		if is := slices.Contains(known, n); is == (code == api.CodeCall) || !is && value != 0 {
			t.Errorf("P21.4: the call %d: %d, %d", n, code, value)
		}
	}
}

// The first three calls do nothing, whatever their arguments are.
func TestTellingCalls(t *testing.T) {
	for _, n := range []int{1, 2, 33, 64} {
		w := of(t, n, 65-n)
		meter := w.m.Meter()
		for _, x := range []uint32{0, 1, 0xffffffff} {
			w.wants(api.CodeOK, 0x57415244, int(x), 1, x, x, x, x)
			w.wants(api.CodeOK, uint32(n), int(x), 2, x, x, x, x)
			w.wants(api.CodeOK, uint32(65-n), int(x), 3, x, x, x, x)
		}
		if w.m.Meter() != meter {
			t.Errorf("P21.4: the calls touch %d words", w.m.Meter()-meter)
		}
	}
}

// Smc takes what the registers hold, whoever laid it there: also the code and the value of the call ahead of it.
func TestSmcGoesOnFromItsRegisters(t *testing.T) {
	w := of(t, 6, 2)
	w.set(10, 4, 2, 1, 0, 50, 60, 70, 80, 90, 100, 110, 120, 130, 140)
	// A space; then the call 0; then its code as a number, a spare page for what is no space; then that one's code, the number of insecure pages; then the call 0 again.
	for i, want := range [][2]uint32{{0, 0}, {uint32(api.CodeCall), 0}, {uint32(api.CodeSpace), 0}, {0, 2}, {uint32(api.CodeCall), 0}} {
		code := w.smc(0)
		if r := w.m.Registers(); uint32(code) != want[0] || r != [15]uint32{want[0], want[1], 2, 1, 0, 50, 60, 70, 80, 90, 100, 110, 120, 130, 140} {
			t.Errorf("P21.4: %d: %d; the registers are %v", i, code, r)
		}
	}
}

// Each argument is taken out of its own register.
func TestArguments(t *testing.T) {
	w := of(t, 12, 4)
	w.program("add r0 r0 r1\nadd r0 r0 r2\nsvc 0")
	w.takes([]uint32{10, 2, 9}, []uint32{12, 2, 5, 0}, []uint32{13, 2, 7, 0x1005, 0}, []uint32{13, 2, 3, 0x5003, 1}, []uint32{14, 2, 0x6003, 3}, []uint32{11, 2, 8, 0x1000}, []uint32{15, 2, 4}, []uint32{16, 2})
	w.wants(api.CodeOK, 123, 100, 17, 8, 100, 20, 3)
	w.wants(api.CodeInterrupted, 0, 1, 17, 8, 200, 30, 4)
	w.wants(api.CodeOK, 234, 100, 18, 8, 1, 1, 1)
	w.takes([]uint32{20, 4}, []uint32{19, 2}, []uint32{20, 3}, []uint32{20, 5}, []uint32{20, 7}, []uint32{20, 8}, []uint32{20, 9}, []uint32{20, 2})
	if w.m.DB().Free() != 12 {
		t.Errorf("P21.4: %d pages are free", w.m.DB().Free())
	}
}

// A thread is run under the boot key, and draws from its own birth's stream.
func TestKeyAndStreams(t *testing.T) {
	draws := [][]uint32{{71, 72}, {}, {73}}
	w := booted(t, monitor.Config{Secure: 40, Insecure: 2, Seed: seed(), Streams: draws})
	for birth := range uint32(4) {
		s := birth * 9
		w.raise(s, "mov r9 r1\nmov r10 r2\nsvc 6\nstr r1 r10 0\nmovi r1 0\nsvc 1\nstr r1 r10 4\nstr r8 r10 8\nsvc 7\nstr r1 r10 12\nmov r0 r9\nsvc 0")
		for turn := range 3 {
			want := uint32(0)
			if int(birth) < len(draws) && turn < len(draws[birth]) {
				want = draws[birth][turn]
			}
			w.wants(api.CodeOK, 99, 1000, 17, s+5, 0, 99, 0x3000)
			if got, _ := w.m.Read(1, 0); got != want {
				t.Errorf("P21.4: the draw %d of the birth %d is %d; want %d", turn, birth, got, want)
			}
			w.plain.d.Memory().Read(insecure(1), 0)
		}
		var m [8]uint32
		for i := range m {
			m[i] = w.m.DB().Memory().Peek(secure(int(s)), 3+i)
		}
		// r1 to r8 as the program has them: a draw was laid over r1, and 0 over that.
		tag := attest.Tag(attest.Key(seed()), m, [8]uint32{0, 0x3000})
		for i, want := range []uint32{tag[0], tag[7], m[0]} {
			if got := w.m.DB().Memory().Peek(insecure(1), 1+i); got != want {
				t.Errorf("P21.4: the word %d of the birth %d is %#x; want %#x", i, birth, got, want)
			}
		}
	}
}

// Fuel beyond its bounds counts as the bound; the calls that run nothing do the same with any.
func TestFuel(t *testing.T) {
	w := of(t, 12, 2)
	w.raise(0, "addi r1 r1 1\nstr r1 r2 0\nb al -3")
	for _, fuel := range []int{math.MinInt, -1, 0, 1, 2, 1000, 99999, 100000, 100001, math.MaxInt} {
		w.write(1, 0, 0)
		w.wants(api.CodeInterrupted, 0, fuel, 17, 5, 0, 0, 0x3000)
		turns := uint32(min(max(fuel, 0), 100000)+1) / 3
		if got := w.m.DB().Memory().Peek(insecure(1), 0); got != turns {
			t.Errorf("P21.4: with the fuel %d %d stores; want %d", fuel, got, turns)
		}
		w.wants(api.CodeInterrupted, 0, 0, 18, 5)
		w.takes([]uint32{19, 0}, []uint32{20, 0x5})
		for _, page := range []uint32{1, 2, 3, 4, 6, 7, 8, 0} {
			w.wants(api.CodeOK, 0, fuel, 20, page)
		}
		w.raise(0, "addi r1 r1 1\nstr r1 r2 0\nb al -3")
	}
}
