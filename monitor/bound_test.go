package monitor_test

import (
	"math"
	"strings"
	"testing"

	"warden/api"
	"warden/monitor"
)

func TestBoundOfEveryFuel(t *testing.T) {
	for fuel := -3; fuel <= 100003; fuel++ {
		counts := int64(min(max(fuel, 0), 100000))
		if got := monitor.Bound(fuel); got != counts*256+8192 {
			t.Fatalf("P21.7: Bound(%d): %d", fuel, got)
		}
	}
	if monitor.Bound(math.MinInt) != 8192 || monitor.Bound(math.MaxInt) != 25608192 || monitor.Bound(1<<32) != 25608192 {
		t.Errorf("P21.7: Bound(%d), Bound(%d), Bound(%d): %d, %d, %d", math.MinInt, math.MaxInt, 1<<32, monitor.Bound(math.MinInt), monitor.Bound(math.MaxInt), monitor.Bound(1<<32))
	}
}

// greedy: programs that touch as many words as they can for their fuel, again and again: loads, stores, quotes that are verified, pages that come and go (of the enclave whose space is 0), the own measurement, draws.
func greedy() []string {
	verify := "movi r1 0x2fa0\nsvc 2\n"
	mapping := "movi r1 7\nmovi r2 0x5003\nsvc 3\nsvc 4\n"
	again := "\nbr r12"
	return []string{
		"movi r12 0x1004\n" + strings.Repeat("ldr r1 r12 0\n", 400) + again,
		"movi r12 0x1008\nmovi r2 0x2000\n" + strings.Repeat("str r1 r2 0\n", 400) + again,
		"movi r12 0x1004\n" + strings.Repeat(verify, 100) + again,
		"movi r12 0x1004\n" + strings.Repeat(mapping, 100) + again,
		"movi r12 0x1004\n" + strings.Repeat("svc 7\n", 400) + again,
		"movi r12 0x1004\n" + strings.Repeat("svc 6\n", 400) + again,
		"movi r12 0x1004\n" + strings.Repeat("svc 1\n", 400) + again,
	}
}

// No call touches more than its bound: world.held looks. Here are those that touch most.
func TestGreedyPrograms(t *testing.T) {
	for _, source := range greedy() {
		w := of(t, 9, 2)
		w.raise(0, source)
		for _, fuel := range []int{0, 1, 2, 64, 100, 1000, 100000} {
			number := uint32(17)
			if e, _ := w.m.DB().Entry(5); e.Entered {
				number = 18
			}
			meter := w.m.Meter()
			w.wants(api.CodeInterrupted, 0, fuel, number, 5)
			if fuel == 1000 && w.m.Meter()-meter < 1000 && !strings.Contains(source, "svc 1") {
				t.Errorf("%.40q touches %d words alone", source, w.m.Meter()-meter)
			}
		}
	}
}

// Of the calls that run nothing the one that builds a data page touches most; none of them touches a word more for any fuel.
func TestGreedyCalls(t *testing.T) {
	w := of(t, 64, 64)
	w.takes([]uint32{10, 0, 1})
	for page := uint32(2); page < 32; page++ {
		w.takes([]uint32{12, 0, page, page * 8})
	}
	for page := uint32(32); page < 64; page++ {
		meter := w.m.Meter()
		w.wants(api.CodeOK, 0, -1, 13, 0, page, 2*8<<22+page<<12+7, page)
		if touched := w.m.Meter() - meter; touched < 2048 {
			t.Errorf("a data page touches %d words alone", touched)
		}
	}
	w.takes([]uint32{16, 0}, []uint32{19, 0})
	for page := uint32(63); page > 0; page-- {
		w.takes([]uint32{20, page})
	}
	w.takes([]uint32{20, 0})
}
