package host_test

import (
	"math"
	"testing"

	"warden/api"
	"warden/host"
)

// odd: numbers about the bounds, and those that are others only above 32 bits.
func odd() []int {
	return []int{math.MinInt, -1 << 32, -1025, -2, -1, 0, 1, 2, 3, 4, 1022, 1023, 1024, 1025, 1 << 32, 1<<32 + 1, math.MaxInt}
}

// Every word of every share is its own; what is beyond is told in the order of the errors, and touches nothing.
func TestPeekAndPoke(t *testing.T) {
	w := made(t, 20, 8)
	w.loads(program(t, plus, "share 0x3000 rw", "share 0x2000 rw"), 0)
	w.loads(program(t, plus), 1)
	w.loads(program(t, plus, "share 0x2000 r"), 2)
	for _, id := range []int{math.MinInt, -1, 0, 1, 2, 3, 1 << 32, 1<<32 + 2, math.MaxInt} {
		for _, share := range odd() {
			for _, off := range odd() {
				shares := map[int]int{0: 2, 2: 1}[id]
				want := api.OK
				switch {
				case share < 0 || share >= shares:
					want = api.ErrUnknown
				case off < 0 || off > 1023:
					want = api.ErrRange
				}
				meter := w.h.Machine().Meter()
				v := uint32(id*70000+share*5000+off) + 1
				poked := w.poke(id, share, off, v)
				got, peeked := w.peek(id, share, off)
				if touched := w.h.Machine().Meter() - meter; poked != want || peeked != want || want == api.OK && (got != v || touched != 2) || want != api.OK && (got != 0 || touched != 0) {
					t.Errorf("P24.4: Poke and Peek(%d, %d, %d): %d, %d and %d; want %d; %d words touched", id, share, off, poked, got, peeked, want, touched)
				}
			}
		}
	}
	w.drop(0)
	if _, e := w.peek(0, 0, 0); e != api.ErrUnknown || w.poke(0, 0, 2000, 1) != api.ErrUnknown {
		t.Errorf("P24.4: Peek of an enclave that was dropped: %d", e)
	}
}

// The thread sees what is poked, each share at its own address, and its stores are peeked.
func TestThreadsSeeTheirShares(t *testing.T) {
	w := made(t, 20, 8)
	move := "movi r5 0x2000\nmovi r6 0x3000\nldr r3 r5 8\nadd r3 r3 r0\nstr r3 r6 12\nmov r0 r3\nsvc 0"
	w.loads(program(t, move, "share 0x3000 rw", "share 0x2000 r"), 0)
	w.loads(program(t, move, "share 0x2000 r", "share 0x3000 rw"), 1)
	for id, from := range []int{1, 0} {
		w.poke(id, from, 2, uint32(100*id+100))
		w.runs(host.Job{Id: id, A: 7}, 100, api.CodeOK, uint32(100*id+107))
		if v, e := w.peek(id, 1-from, 3); v != uint32(100*id+107) || e != api.OK {
			t.Errorf("P24.4: Peek of what enclave %d stored: %d, %d", id, v, e)
		}
		if v, e := w.peek(id, from, 3); v != 0 || e != api.OK {
			t.Errorf("P24.4: Peek of the other share of %d: %d, %d", id, v, e)
		}
	}
}

// What stood in a share stays, whoever has its page next.
func TestWordsOfSharesStay(t *testing.T) {
	w := made(t, 20, 4)
	w.loads(program(t, plus, "share 0x2000 r", "share 0x3000 r"), 0)
	w.poke(0, 0, 5, 50)
	w.poke(0, 1, 5, 51)
	w.drop(0)
	w.loads(program(t, plus, "share 0x2000 r", "share 0x3000 r", "share 0x4000 rw"), 1)
	for share, want := range []uint32{50, 51, 0} {
		if v, e := w.peek(1, share, 5); v != want || e != api.OK {
			t.Errorf("P24.7: a word of the share %d: %d, %d; want %d", share, v, e, want)
		}
	}
}
