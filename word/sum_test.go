package word_test

import (
	"math"
	"math/big"
	"testing"

	"warden/word"
)

func TestMovesExamples(t *testing.T) {
	for _, c := range []struct {
		name      string
		got, want uint32
	}{
		{"Left(1, 31)", word.Left(1, 31), 0x80000000},
		{"Left(3, 31)", word.Left(3, 31), 0x80000000},
		{"Left(1, 32)", word.Left(1, 32), 0},
		{"Right(0x80000000, 32)", word.Right(0x80000000, 32), 0},
		{"Right(0x80000000, 31)", word.Right(0x80000000, 31), 1},
		{"Arith(0x80000000, 31)", word.Arith(0x80000000, 31), 0xffffffff},
		{"Arith(0xfffffff9, 1)", word.Arith(0xfffffff9, 1), 0xfffffffc},
		{"Arith(0x80000000, 0xffffffff)", word.Arith(0x80000000, 0xffffffff), 0xffffffff},
		{"Arith(0x7fffffff, 40)", word.Arith(0x7fffffff, 40), 0},
	} {
		if c.got != c.want {
			t.Errorf("P1.7: %s = %#x, want %#x", c.name, c.got, c.want)
		}
	}
}

// lowWord: a number without bound modulo 2^32 (0 or more, below 0 too).
func lowWord(n *big.Int) uint32 {
	return uint32(new(big.Int).Mod(n, big.NewInt(1<<32)).Uint64())
}

// movesByNumbers: by products and quotients of numbers without bound; from 64 bits on nothing changes any more.
func movesByNumbers(w, n uint32) (left, right, arith uint32) {
	power := new(big.Int).Lsh(big.NewInt(1), uint(min(n, 64)))
	whole, signed := big.NewInt(int64(w)), big.NewInt(int64(w))
	if w >= 1<<31 {
		signed.Sub(signed, big.NewInt(1<<32))
	}
	left = lowWord(new(big.Int).Mul(whole, power))
	right = lowWord(new(big.Int).Div(whole, power))
	// Div of numbers without bound rounds down, for a divisor above 0.
	arith = lowWord(new(big.Int).Div(signed, power))
	return left, right, arith
}

func TestMovesByNumbers(t *testing.T) {
	moves := []uint32{40, 63, 64, 65, 255, 256, 288, 1 << 16, 1 << 31, 0xffffffe0, 0xffffffff}
	for n := range uint32(36) {
		moves = append(moves, n)
	}
	for _, w := range samples() {
		for _, n := range moves {
			left, right, arith := movesByNumbers(w, n)
			if got := word.Left(w, n); got != left {
				t.Errorf("P1.7: Left(%#x, %d) = %#x, want %#x", w, n, got, left)
			}
			if got := word.Right(w, n); got != right {
				t.Errorf("P1.7: Right(%#x, %d) = %#x, want %#x", w, n, got, right)
			}
			if got := word.Arith(w, n); got != arith {
				t.Errorf("P1.7: Arith(%#x, %d) = %#x, want %#x", w, n, got, arith)
			}
		}
	}
}

func TestRotateExamples(t *testing.T) {
	for _, c := range []struct {
		w    uint32
		n    int
		want uint32
	}{
		{0x80000001, 1, 0xc0000000}, {0x80000001, -1, 3}, {0x12345678, 32, 0x12345678}, {0x12345678, 0, 0x12345678}, {0x12345678, 8, 0x78123456},
	} {
		if got := word.Rotate(c.w, c.n); got != c.want {
			t.Errorf("P1.8: Rotate(%#x, %d) = %#x, want %#x", c.w, c.n, got, c.want)
		}
	}
}

func rotateByBits(w uint32, n int) uint32 {
	k := (n%32 + 32) % 32
	var out uint32
	for i := range 32 {
		out |= w >> i % 2 << ((i - k + 32) % 32)
	}
	return out
}

func TestRotateByBits(t *testing.T) {
	turns := []int{math.MinInt, math.MinInt + 1, math.MinInt + 31, math.MaxInt - 31, math.MaxInt - 1, math.MaxInt}
	for i := range 200 {
		turns = append(turns, i-100)
	}
	for _, w := range samples() {
		for _, n := range turns {
			if got, want := word.Rotate(w, n), rotateByBits(w, n); got != want {
				t.Errorf("P1.8: Rotate(%#x, %d) = %#x, want %#x", w, n, got, want)
			}
		}
	}
}

func TestAddExamples(t *testing.T) {
	for _, c := range []struct{ a, b, carry, sum, out uint32 }{
		{0xffffffff, 1, 0, 0, 1}, {0xffffffff, 0xffffffff, 1, 0xffffffff, 1}, {1, 2, 2, 3, 0}, {1, 2, 3, 4, 0},
	} {
		if sum, out := word.Add(c.a, c.b, c.carry); sum != c.sum || out != c.out {
			t.Errorf("P1.9: Add(%#x, %#x, %#x) = %#x, %d, want %#x, %d", c.a, c.b, c.carry, sum, out, c.sum, c.out)
		}
	}
}

func TestAddByNumbers(t *testing.T) {
	for _, a := range samples() {
		for _, b := range samples() {
			for _, carry := range []uint32{0, 1, 2, 3, 0x80000000, 0x80000001, 0xfffffffe, 0xffffffff} {
				whole := uint64(a) + uint64(b) + uint64(carry%2)
				if sum, out := word.Add(a, b, carry); uint64(sum) != whole%(1<<32) || uint64(out) != whole/(1<<32) {
					t.Errorf("P1.9: Add(%#x, %#x, %#x) = %#x, %d", a, b, carry, sum, out)
				}
			}
		}
	}
}

func TestDiv(t *testing.T) {
	for _, c := range [][3]uint32{
		{7, 2, 3}, {0xffffffff, 1, 0xffffffff}, {7, 0, 0xffffffff}, {0, 0, 0xffffffff}, {0xffffffff, 0, 0xffffffff},
		{0, 7, 0}, {6, 7, 0}, {7, 7, 1}, {0xffffffff, 0xffffffff, 1}, {0xfffffffe, 0xffffffff, 0},
		// Not as numbers with a sign: no quotient here is that of a number below 0.
		{0x80000000, 0xffffffff, 0}, {0xfffffffe, 2, 0x7fffffff}, {0x80000000, 2, 0x40000000},
	} {
		if got := word.Div(c[0], c[1]); got != c[2] {
			t.Errorf("P1.10: Div(%#x, %#x) = %#x, want %#x", c[0], c[1], got, c[2])
		}
	}
}

// signed is the chapter's sentence: itself below 2^31, and less 2^32 from there on.
func signed(w uint32) int64 {
	if w < 1<<31 {
		return int64(w)
	}
	return int64(w) - 1<<32
}

func TestLess(t *testing.T) {
	if !word.Less(0xffffffff, 0) || !word.Less(0x80000000, 0x7fffffff) || word.Less(5, 5) {
		t.Errorf("P1.11: Less of the chapter's three")
	}
	for _, a := range samples() {
		for _, b := range samples() {
			if got := word.Less(a, b); got != (signed(a) < signed(b)) {
				t.Errorf("P1.11: Less(%#x, %#x) = %v", a, b, got)
			}
		}
	}
}
