package walk_test

import (
	"math"
	"math/rand"
	"testing"

	"warden/api"
	"warden/walk"
)

func TestAddressExamples(t *testing.T) {
	for _, x := range []struct {
		va        uint32
		i, j, off int
		e         api.Errno
	}{
		{0, 0, 0, 0, api.OK}, {0x3ffffffc, 255, 1023, 1023, api.OK}, {0x00403008, 1, 3, 2, api.OK},
		{4, 0, 0, 1, api.OK}, {0xffc, 0, 0, 1023, api.OK}, {0x1000, 0, 1, 0, api.OK}, {0x3ff000, 0, 1023, 0, api.OK}, {0x400000, 1, 0, 0, api.OK}, {0x3fc00000, 255, 0, 0, api.OK},
		{0x40000000, 0, 0, 0, api.ErrVA}, {2, 0, 0, 0, api.ErrVA}, {0xffffffff, 0, 0, 0, api.ErrVA},
		{1, 0, 0, 0, api.ErrVA}, {3, 0, 0, 0, api.ErrVA}, {0x3fffffff, 0, 0, 0, api.ErrVA}, {0x3ffffffd, 0, 0, 0, api.ErrVA}, {0x3ffffffe, 0, 0, 0, api.ErrVA},
		{0x40000001, 0, 0, 0, api.ErrVA}, {0x40403008, 0, 0, 0, api.ErrVA}, {0x80000000, 0, 0, 0, api.ErrVA}, {0xfffffffc, 0, 0, 0, api.ErrVA},
	} {
		if i, j, off, e := walk.Split(x.va); i != x.i || j != x.j || off != x.off || e != x.e {
			t.Errorf("P9.1: Split(%#x) = %d, %d, %d, %d; want %d, %d, %d, %d", x.va, i, j, off, e, x.i, x.j, x.off, x.e)
		}
		if x.e != api.OK {
			continue
		}
		if va, e := walk.Join(x.i, x.j, x.off); va != x.va || e != api.OK {
			t.Errorf("P9.1: Join(%d, %d, %d) = %#x, %d; want %#x", x.i, x.j, x.off, va, e, x.va)
		}
	}
}

func TestJoinTakesWhatThePartsMayBe(t *testing.T) {
	is := []int{math.MinInt, math.MinInt32, -256, -1, 0, 1, 128, 254, 255, 256, 257, 1023, 1 << 10, math.MaxInt32, 1 << 32, 1<<32 + 1, math.MaxInt}
	js := []int{math.MinInt, -1 << 32, -1024, -1, 0, 1, 255, 256, 512, 1022, 1023, 1024, 1025, 2047, 1 << 20, 1 << 32, 1<<42 + 3, math.MaxInt}
	for _, i := range is {
		for _, j := range js {
			for _, off := range js {
				wantVA, wantE := uint32(0), api.ErrRange
				if i >= 0 && i <= 255 && j >= 0 && j <= 1023 && off >= 0 && off <= 1023 {
					wantVA, wantE = uint32(i*4194304+j*4096+off*4), api.OK
				}
				if va, e := walk.Join(i, j, off); va != wantVA || e != wantE {
					t.Fatalf("P9.1: Join(%d, %d, %d) = %#x, %d; want %#x, %d", i, j, off, va, e, wantVA, wantE)
				}
			}
		}
	}
}

func TestSplitIsJoinTheOtherWayRound(t *testing.T) {
	r := rand.New(rand.NewSource(91))
	for range 200000 {
		va := r.Uint32() >> r.Intn(4)
		wantE := api.OK
		if va >= 1073741824 || va%4 != 0 {
			wantE = api.ErrVA
		}
		i, j, off, e := walk.Split(va)
		if e != wantE || e != api.OK && (i != 0 || j != 0 || off != 0) {
			t.Fatalf("P9.1: Split(%#x) = %d, %d, %d, %d; want %d", va, i, j, off, e, wantE)
		}
		if e != api.OK {
			continue
		}
		if i != int(va/4194304) || j != int(va/4096%1024) || off != int(va/4%1024) {
			t.Fatalf("P9.1: Split(%#x) = %d, %d, %d", va, i, j, off)
		}
		if back, e := walk.Join(i, j, off); back != va || e != api.OK {
			t.Fatalf("P9.1: Join(%d, %d, %d) = %#x, %d; want %#x", i, j, off, back, e, va)
		}
	}
}
