package word_test

import (
	"math"
	"testing"

	"warden/word"
)

func TestFieldExamples(t *testing.T) {
	for _, c := range []struct {
		lo, n int
		want  uint32
	}{
		{4, 8, 0x67}, {0, 32, 0x12345678}, {28, 4, 1}, {28, 5, 0}, {0, 0, 0}, {-1, 4, 0}, {32, 1, 0}, {1, math.MaxInt, 0},
	} {
		if got := word.Field(0x12345678, c.lo, c.n); got != c.want {
			t.Errorf("P1.5: Field(0x12345678, %d, %d) = %#x, want %#x", c.lo, c.n, got, c.want)
		}
	}
	if got := word.SetField(0x12345678, 4, 8, 0xfab); got != 0x12345ab8 {
		t.Errorf("P1.5: SetField(0x12345678, 4, 8, 0xfab) = %#x", got)
	}
	if got := word.SetField(0x12345678, 28, 5, 0); got != 0x12345678 {
		t.Errorf("P1.5: SetField(0x12345678, 28, 5, 0) = %#x", got)
	}
}

// edges: the numbers of a field that may be, those beside them, and the ends of int, whose sums go round.
func edges() []int {
	out := []int{math.MinInt, math.MinInt + 1, math.MinInt + 32, math.MaxInt - 31, math.MaxInt - 1, math.MaxInt, math.MaxInt32, math.MinInt32}
	for i := range 70 {
		out = append(out, i-34)
	}
	return out
}

// fieldMayBe is the chapter's sentence in floats, which don't go round.
func fieldMayBe(lo, n int) bool {
	return n >= 1 && n <= 32 && lo >= 0 && lo <= 31 && float64(lo)+float64(n) <= 32
}

// fieldByBits goes bit by bit: the field's number, and w with the field's bits those of v.
func fieldByBits(w uint32, lo, n int, v uint32) (got, set uint32) {
	set = w
	if !fieldMayBe(lo, n) {
		return 0, w
	}
	for i := range n {
		got += w >> (lo + i) % 2 << i
		set -= w >> (lo + i) % 2 << (lo + i)
		set += v >> i % 2 << (lo + i)
	}
	return got, set
}

func TestFieldByBits(t *testing.T) {
	for _, w := range samples() {
		for _, lo := range edges() {
			for _, n := range edges() {
				for _, v := range []uint32{0, 0xffffffff, 0xa5c3960f} {
					got, set := fieldByBits(w, lo, n, v)
					if g := word.Field(w, lo, n); g != got {
						t.Fatalf("P1.5: Field(%#x, %d, %d) = %#x, want %#x", w, lo, n, g, got)
					}
					if s := word.SetField(w, lo, n, v); s != set {
						t.Fatalf("P1.5: SetField(%#x, %d, %d, %#x) = %#x, want %#x", w, lo, n, v, s, set)
					}
				}
			}
		}
	}
}

func TestExtendExamples(t *testing.T) {
	for _, c := range []struct {
		w    uint32
		n    int
		want int32
	}{
		{0xff, 8, -1}, {0x7f, 8, 127}, {0x80000000, 32, -2147483648}, {1, 1, -1}, {2, 1, 0}, {5, 0, 0}, {5, 33, 0},
	} {
		if got := word.Extend(c.w, c.n); got != c.want {
			t.Errorf("P1.6: Extend(%#x, %d) = %d, want %d", c.w, c.n, got, c.want)
		}
	}
}

func TestExtendByCount(t *testing.T) {
	for _, w := range samples() {
		for _, n := range edges() {
			var want int64
			if n >= 1 && n <= 32 {
				want = int64(w) % (1 << n)
				if want >= 1<<(n-1) {
					want -= 1 << n
				}
			}
			if got := word.Extend(w, n); int64(got) != want {
				t.Errorf("P1.6: Extend(%#x, %d) = %d, want %d", w, n, got, want)
			}
		}
	}
}
