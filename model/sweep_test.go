package model_test

import (
	"math"
	"testing"

	"warden/api"
)

// mixed: a machine in which every call can meet every refusal: a final enclave in the pages 0 to 8 (whose thread in page 5 is interrupted), one that is being built in 9 to 13 (a table for the addresses from 0 on, a page at 0x1000), one that is stopped in 14 to 16, free pages 17 to 19.
func mixed(t *testing.T) world {
	t.Helper()
	w := booted(t, config(20, 2))
	w.raise(0, "addi r0 r0 1\nb al -2")
	w.wants(api.CodeInterrupted, 0, 10, 17, 5, 1, 2, 3)
	w.takes([]uint32{10, 9, 10}, []uint32{12, 9, 11, 0}, []uint32{11, 9, 12, 77}, []uint32{13, 9, 13, 0x1007, 0})
	w.takes([]uint32{10, 14, 15}, []uint32{11, 14, 16, 5}, []uint32{19, 14})
	return w
}

// sweep: a call with every choice of its arguments. Whatever one of them changes is taken back ahead of the next one.
func sweep(t *testing.T, number uint32, choices ...[]uint32) {
	t.Helper()
	base := mixed(t)
	w := base.over(base.m.DB().Clone())
	var turn func(words []uint32, left [][]uint32)
	turn = func(words []uint32, left [][]uint32) {
		if len(left) > 0 {
			for _, v := range left[0] {
				turn(append(words[:len(words):len(words)], v), left[1:])
			}
			return
		}
		code, _ := w.do(5, words...)
		if code == api.CodeOK || code == api.CodeInterrupted || code == api.CodeFault {
			w = base.over(base.m.DB().Clone())
		}
	}
	turn([]uint32{number}, choices)
}

// A page of every kind, and words that are none.
func pages() []uint32 {
	return []uint32{0, 1, 2, 3, 5, 6, 7, 9, 10, 11, 12, 14, 15, 16, 17, 19, 20, 64, 0x10000, 0x80000000, 0xffffffff}
}

func mappings() []uint32 {
	return []uint32{0, 1, 0x1001, 0x1003, 0x2001, 0x2002, 0x2003, 0x2005, 0x2007, 0x2009, 0x2801, 0x400001, 0x3ffff001, 0x40000001, 0x80002001, 0xfffff001}
}

func TestEveryRefusal(t *testing.T) {
	few := []uint32{0, 9, 14, 1, 20, 0xffffffff}
	shared := []uint32{0, 1, 2, 64, 0x80000000, 0xffffffff}
	sweep(t, 10, pages(), pages())
	sweep(t, 11, few, pages(), []uint32{0, 0x1002, 0xffffffff})
	sweep(t, 12, few, pages(), []uint32{0, 1, 255, 256, 0x100, 0x80000000, 0xffffffff})
	sweep(t, 13, few, []uint32{0, 3, 9, 13, 17, 20, 0xffffffff}, mappings(), shared)
	sweep(t, 14, few, mappings(), shared)
	sweep(t, 15, pages(), pages())
	sweep(t, 17, pages(), []uint32{0, 0xffffffff})
	for _, number := range []uint32{16, 18, 19, 20} {
		sweep(t, number, pages())
	}
}

// Every number but the fourteen is no call, whatever stands in the other registers.
func TestNumbers(t *testing.T) {
	w := mixed(t)
	for _, n := range []uint32{0, 4, 5, 6, 7, 8, 9, 21, 22, 63, 100, 255, 256, 257, 1 << 16, 1<<16 + 10, 1 << 31, 1<<31 + 10, 0xffffff00 + 10, 0xfffffff6, 0xffffffff} {
		w.wants(api.CodeCall, 0, 5, n, 17, 17, 0, 0)
	}
	w.wants(api.CodeOK, 0x57415244, 5, 1, 9, 9, 9, 9)
	w.wants(api.CodeOK, 20, 5, 2, 9, 9, 9, 9)
	w.wants(api.CodeOK, 2, 5, 3, 9, 9, 9, 9)
}

// A page is given back in every order, and comes back as nothing.
func TestGivenBack(t *testing.T) {
	w := mixed(t)
	for _, page := range []uint32{7, 3, 9} {
		w.do(0, 20, page)
	}
	w.takes([]uint32{19, 0}, []uint32{20, 3}, []uint32{20, 8}, []uint32{20, 1}, []uint32{20, 5}, []uint32{20, 2})
	w.wants(api.CodeHeld, 0, 0, 20, 0)
	// What a stopped enclave had is another's now.
	w.takes([]uint32{13, 9, 3, 0x5007, 1}, []uint32{12, 9, 2, 9}, []uint32{20, 6}, []uint32{20, 4}, []uint32{20, 0}, []uint32{10, 0, 1})
	w.wants(api.CodeFree, 0, 0, 20, 4)
}

func TestFuel(t *testing.T) {
	w := booted(t, config(12, 2))
	w.raise(0, "addi r1 r1 1\nstr r1 r2 0\nb al -3")
	base := w
	for _, fuel := range []int{math.MinInt, -1, 0, 1, 2, 3, 1000, 99999, 100000, 100001, math.MaxInt} {
		w = base.over(base.m.DB().Clone())
		w.wants(api.CodeInterrupted, 0, fuel, 17, 5, 0, 0, 0x3000)
		turns := uint32(min(max(fuel, 0), 100000)+1) / 3
		if got, _ := w.n.Read(1, 0); got != turns {
			t.Errorf("P22.2: with the fuel %d %d stores; want %d", fuel, got, turns)
		}
		w.wants(api.CodeInterrupted, 0, 0, 18, 5)
		w.wants(api.CodeInterrupted, 0, fuel, 18, 5)
	}
}
