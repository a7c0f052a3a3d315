package monitor_test

import (
	"testing"

	"warden/api"
	"warden/mem"
	"warden/monitor"
	"warden/pagedb"
)

// streams: so many, the last one that long.
func streams(n, long int) [][]uint32 {
	all := make([][]uint32, n)
	if n > 0 {
		all[n-1] = make([]uint32, long)
	}
	return all
}

func TestExample1(t *testing.T) {
	for _, c := range []monitor.Config{
		{Secure: 0, Insecure: 1}, {Secure: 65, Insecure: 1}, {Secure: 1, Insecure: 0},
		{Secure: 1, Insecure: 1, Streams: streams(65, 0)}, {Secure: 1, Insecure: 1, Streams: streams(1, 4097)},
	} {
		if m, e := monitor.New(c); m != nil || e != api.ErrConfig {
			t.Errorf("P21.1: New of %d and %d pages, %d streams: %v, %d", c.Secure, c.Insecure, len(c.Streams), m, e)
		}
	}
	m := made(t, monitor.Config{Secure: 4, Insecure: 2})
	if m.Meter() != 4096 || m.Registers() != [15]uint32{} {
		t.Errorf("P21.1: just booted: %d, %v", m.Meter(), m.Registers())
	}
}

func TestExample2(t *testing.T) {
	w := of(t, 4, 2)
	w.wants(api.CodeOK, 0x57415244, 0, 1, 7, 7, 7, 7)
	if r := w.m.Registers(); r != [15]uint32{0, 0x57415244, 7, 7, 7} {
		t.Errorf("P21.4: the registers are %#x", r)
	}
	w.wants(api.CodeOK, 4, 0, 2, 1, 2, 3, 4)
	w.wants(api.CodeOK, 2, 0, 3, 1, 2, 3, 4)
	for _, n := range []uint32{0, 4, 9, 21, 0xffffffff} {
		w.wants(api.CodeCall, 0, 0, n, 1, 2, 3, 4)
	}
}

func TestExample3(t *testing.T) {
	w := of(t, 4, 2)
	w.wants(api.CodeOK, 0, 0, 10, 0, 1, 0, 0)
	w.wants(api.CodeUsed, 0, 0, 10, 0, 1)
	w.wants(api.CodePage, 0, 0, 10, 9, 1)
	w.wants(api.CodeOK, 0, 0, 16, 0)
	w.wants(api.CodeThread, 0, 0, 17, 0)
}

func TestExample4(t *testing.T) {
	m := made(t, monitor.Config{Secure: 4, Insecure: 2})
	for _, r := range []int{15, -1} {
		if e := m.SetRegister(r, 1); e != api.ErrArg {
			t.Errorf("P21.3: SetRegister(%d, 1): %d", r, e)
		}
	}
	if v, e := m.Read(2, 0); v != 0 || e != api.ErrPage {
		t.Errorf("P21.3: Read(2, 0): %d, %d", v, e)
	}
	if v, e := m.Read(0, 1024); v != 0 || e != api.ErrRange {
		t.Errorf("P21.3: Read(0, 1024): %d, %d", v, e)
	}
	if e := m.Write(1, 1023, 5); e != api.OK {
		t.Errorf("P21.3: Write(1, 1023, 5): %d", e)
	}
	if v, e := m.Read(1, 1023); v != 5 || e != api.OK {
		t.Errorf("P21.3: Read(1, 1023): %d, %d", v, e)
	}
}

func TestExample5(t *testing.T) {
	for fuel, want := range map[int]int64{0: 8192, -5: 8192, 10: 10752, 100000: 25608192, 100001: 25608192} {
		if got := monitor.Bound(fuel); got != want {
			t.Errorf("P21.7: Bound(%d): %d; want %d", fuel, got, want)
		}
	}
}

func TestExample6(t *testing.T) {
	c := monitor.Config{Secure: 4, Insecure: 2}
	if m, e := monitor.Over(c, nil, [15]uint32{}); m != nil || e != api.ErrConfig {
		t.Errorf("P21.2: Over no database: %v, %d", m, e)
	}
	five, _ := mem.New(5, 2)
	if m, e := monitor.Over(c, pagedb.New(five), [15]uint32{}); m != nil || e != api.ErrConfig {
		t.Errorf("P21.2: Over five pages: %v, %d", m, e)
	}
	four, _ := mem.New(4, 2)
	d := pagedb.New(four)
	four.Write(secure(2), 77, 1)
	if m, e := monitor.Over(c, d, [15]uint32{}); m != nil || e != api.ErrBroken {
		t.Errorf("P21.2: Over a free page that isn't zero: %v, %d", m, e)
	}
}
