package enter_test

import (
	"testing"

	"warden/api"
	"warden/pagedb"
)

// needed: the least fuel with which an Enter ends by an exit or a fault; 0, if none is enough.
func (w world) needed(a ask) int {
	a.fuel = api.MaxFuel
	got, left := (reckoning{w.d.Clone(), w.seen}).run(a)
	if got.code == api.CodeInterrupted {
		return 0
	}
	return api.MaxFuel - left
}

// inPieces: an Enter with a first fuel, then Resumes with the next ones, as long as it is interrupted; how many, the last answer, and the machine.
func (w world) inPieces(a ask, first int, next func() int) (int, told, *pagedb.DB) {
	w.Helper()
	d := w.d.Clone()
	a.fuel = first
	got, count := a.done(d), 0
	a.resume = true
	for ; got.code == api.CodeInterrupted; count++ {
		if count > api.MaxFuel {
			w.Fatalf("P20.7: more than %d Resumes", count)
		}
		a.fuel = next()
		got = a.done(d)
	}
	return count, got, d
}

// samePieces: in pieces a run ends as it does in one, and no later than behind n Resumes.
func (w world) samePieces(a ask, n, first int, next func() int) int {
	w.Helper()
	one := w.d.Clone()
	a.fuel = n
	want := a.done(one)
	if want.code != api.CodeOK && want.code != api.CodeFault {
		w.Fatalf("P20.3: the fuel %d: %+v", n, want)
	}
	count, got, d := w.inPieces(a, first, next)
	if got != want || count > n {
		w.Fatalf("P20.7: the fuel %d, first %d: %+v behind %d Resumes; want %+v", n, first, got, count, want)
	}
	w.alike("P20.7: in pieces", d, one)
	return count
}

func always(fuel int) func() int { return func() int { return fuel } }

// Programs by chance, in pieces by chance; with just the fuel that is needed, and with more.
func TestPiecesByChance(t *testing.T) {
	ended := map[told]int{}
	for seed := range int64(300) {
		c := seeded(20700 + seed)
		w := booted(t, 9, 3)
		w.streams = c.draws()
		w.raise(0, c.program(0))
		a := ask{key: bootKey(), streams: w.streams, thread: 5 + uint32(c.Intn(2)), args: [3]uint32{c.Uint32(), c.Uint32() % 100, c.Uint32()}}
		n := w.needed(a)
		if n == 0 {
			continue
		}
		for _, first := range []int{-1, 0, 1, n / 2, n - 1, n, c.Intn(2 * n), 64} {
			w.samePieces(a, n, first, always(64))
			w.samePieces(a, n+c.Intn(1000), first, func() int { return 64 + c.Intn(3)*c.Intn(100) })
			w.samePieces(a, n, first, always(1<<40))
		}
		a.fuel = n - 1
		if got := a.done(w.d.Clone()); got.code != api.CodeInterrupted {
			t.Fatalf("P20.3: with %d of %d: %+v", n-1, n, got)
		}
		a.fuel = n
		got := a.done(w.d)
		ended[told{got.code, min(got.value, 4)}]++
	}
	for _, end := range []told{{api.CodeOK, 0}, {api.CodeOK, 4}, {api.CodeFault, 1}, {api.CodeFault, 2}, {api.CodeFault, 3}} {
		if ended[end] < 5 {
			t.Errorf("%+v comes %d times", end, ended[end])
		}
	}
}

// Every first fuel and many next ones, of a program with dear calls one behind the other, a loop, and draws.
func TestPiecesOneByOne(t *testing.T) {
	w := booted(t, 9, 3)
	w.streams = roomy([]uint32{5, 6, 7, 8, 9})
	w.raise(0, `
		movi r12 0x2000
		movi r10 3
		x: svc 1
		svc 6
		str r1 r12 0
		movi r1 7
		movi r2 0x5003
		svc 3
		svc 4
		svc 6
		add r9 r9 r1
		addi r10 r10 -1
		cmpi r10 0
		b ne x
		mov r0 r9
		svc 0`)
	a := ask{key: bootKey(), streams: w.streams, thread: 5}
	n := w.needed(a)
	if want := 2 + 3*(3*64+9) + 2; n != want {
		t.Fatalf("P20.3: %d needed; want %d", n, want)
	}
	for first := -1; first <= n+1; first += 3 {
		for _, next := range []int{64, 65, 66, 100, 127, 128, 129, 192, n} {
			w.samePieces(a, n, first, always(next))
		}
	}
}

// The bound is met by the least of all programs.
func TestPiecesAtTheBound(t *testing.T) {
	w := enclave(t, "svc 0")
	a := ask{key: bootKey(), thread: 5, args: [3]uint32{9}}
	if count := w.samePieces(a, 1, 0, always(64)); count != 1 {
		t.Errorf("P20.7: %d Resumes", count)
	}
	if count := w.samePieces(a, 1, 1, always(64)); count != 0 {
		t.Errorf("P20.7: %d Resumes", count)
	}
}
