package regs_test

import (
	"math"
	"math/rand"
	"testing"

	"warden/api"
	"warden/regs"
)

// full: a file no two of whose words are alike, and none is 0.
func full() regs.File {
	f := regs.File{PC: 0xdeadbeef}
	for i := range f.R {
		f.R[i] = 0x80000001 + uint32(i)*0x01010101
	}
	return f
}

// flagged: all eight files of f's words, those that may not be too.
func flagged(f regs.File) []regs.File {
	var all []regs.File
	for k := range 8 {
		f.Z, f.N, f.L = k&1 != 0, k&2 != 0, k&4 != 0
		all = append(all, f)
	}
	return all
}

// random: any file, of flags that may not be too.
func random(r *rand.Rand) regs.File {
	f := regs.File{PC: r.Uint32(), Z: r.Intn(2) == 0, N: r.Intn(2) == 0, L: r.Intn(2) == 0}
	for i := range f.R {
		f.R[i] = r.Uint32()
	}
	return f
}

var noRegisters = []int{-1, -2, 15, 16, 17, 31, 255, 1 << 31, 1 << 32, 1<<32 + 3, -1 << 32, math.MaxInt32, math.MinInt32, math.MaxInt, math.MinInt}

func TestGet(t *testing.T) {
	f := regs.File{}
	f.R[14] = 7
	if v, e := regs.Get(f, 14); v != 7 || e != api.OK {
		t.Errorf("P8.1: Get of r14: %d, %d; want 7", v, e)
	}
	for _, f := range append(flagged(full()), regs.File{}) {
		for r, want := range f.R {
			if v, e := regs.Get(f, r); v != want || e != api.OK {
				t.Errorf("P8.1: Get(%+v, %d) = %#x, %d; want %#x", f, r, v, e, want)
			}
		}
		for _, r := range noRegisters {
			if v, e := regs.Get(f, r); v != 0 || e != api.ErrReg {
				t.Errorf("P8.1: Get(%+v, %d) = %#x, %d; want ErrReg", f, r, v, e)
			}
		}
	}
}

func TestSet(t *testing.T) {
	for _, f := range append(flagged(full()), regs.File{}) {
		for r := range api.Registers {
			for _, v := range []uint32{0, 9, 0x80000000, math.MaxUint32} {
				want := f
				want.R[r] = v
				if g, e := regs.Set(f, r, v); g != want || e != api.OK {
					t.Errorf("P8.1: Set(%+v, %d, %#x) = %+v, %d", f, r, v, g, e)
				}
			}
		}
		for _, r := range noRegisters {
			if g, e := regs.Set(f, r, 9); g != (regs.File{}) || e != api.ErrReg {
				t.Errorf("P8.1: Set(%+v, %d, 9) = %+v, %d; want the zero file and ErrReg", f, r, g, e)
			}
		}
	}
}

func TestStart(t *testing.T) {
	want := regs.File{PC: 0x1000}
	want.R[0], want.R[1], want.R[2] = 1, 2, 3
	if f := regs.Start(0x1000, 1, 2, 3); f != want {
		t.Errorf("P8.7: Start(0x1000, 1, 2, 3) = %+v", f)
	}
	if f := regs.Start(0, 0, 0, 0); f != (regs.File{}) {
		t.Errorf("P8.7: Start of zeros = %+v", f)
	}
	r := rand.New(rand.NewSource(87))
	for range 1000 {
		pc, a, b, c := r.Uint32(), r.Uint32(), r.Uint32(), r.Uint32()
		want := regs.File{PC: pc}
		want.R[0], want.R[1], want.R[2] = a, b, c
		if f := regs.Start(pc, a, b, c); f != want {
			t.Fatalf("P8.7: Start(%#x, %#x, %#x, %#x) = %+v", pc, a, b, c, f)
		}
	}
}
