package sha_test

import (
	"crypto/sha256"
	"encoding/binary"
	"math/big"
	"slices"
	"strings"
	"testing"

	"warden/sha"
)

type sum = [8]uint32

var empty = sum{0xe3b0c442, 0x98fc1c14, 0x9afbf4c8, 0x996fb924, 0x27ae41e4, 0x649b934c, 0xa495991b, 0x7852b855}

// bytesOf: the words' bytes, the highest first.
func bytesOf(words []uint32) []byte {
	var b []byte
	for _, w := range words {
		b = binary.BigEndian.AppendUint32(b, w)
	}
	return b
}

// other: the sum by the library.
func other(b []byte) sum {
	d := sha256.Sum256(b)
	var s sum
	for i := range s {
		s[i] = binary.BigEndian.Uint32(d[4*i:])
	}
	return s
}

// scatter: so many words without a plain order.
func scatter(n int, seed uint32) []uint32 {
	words := make([]uint32, n)
	x := seed*2654435761 + 1
	for i := range words {
		x ^= x << 13
		x ^= x >> 17
		x ^= x << 5
		words[i] = x
	}
	return words
}

// rootWord: the upper 32 bits behind the point of a prime's root of that degree, by halving.
func rootWord(prime int64, degree int64) uint32 {
	want := new(big.Int).Lsh(big.NewInt(prime), uint(32*degree))
	low, high := uint64(0), uint64(prime)<<32
	for low < high {
		mid := low + (high-low+1)/2
		power := new(big.Int).Exp(new(big.Int).SetUint64(mid), big.NewInt(degree), nil)
		if power.Cmp(want) <= 0 {
			low = mid
		} else {
			high = mid - 1
		}
	}
	return uint32(low)
}

func primes(n int) []int64 {
	var found []int64
	for p := int64(2); len(found) < n; p++ {
		if big.NewInt(p).ProbablyPrime(20) {
			found = append(found, p)
		}
	}
	return found
}

func TestFirst(t *testing.T) {
	want := sum{0x6a09e667, 0xbb67ae85, 0x3c6ef372, 0xa54ff53a, 0x510e527f, 0x9b05688c, 0x1f83d9ab, 0x5be0cd19}
	if got := sha.First(); got != want {
		t.Errorf("P2.1: First() = %08x", got)
	}
	for i, p := range primes(8) {
		if got := sha.First()[i]; got != rootWord(p, 2) {
			t.Errorf("P2.1: word %d of the first state is %08x, the root of %d says %08x", i, got, p, rootWord(p, 2))
		}
	}
}

// numberBlock: FIPS 180-4, 6.2.2, over numbers of 64 bits taken modulo 2^32, with the round words out of the primes' cube roots.
func numberBlock(state sum, block [16]uint32) sum {
	const m = 1 << 32
	turn := func(x, n uint64) uint64 { return (x<<(32-n) | x>>n) % m }
	var w [64]uint64
	for t := range 64 {
		if t < 16 {
			w[t] = uint64(block[t])
			continue
		}
		s0 := turn(w[t-15], 7) ^ turn(w[t-15], 18) ^ w[t-15]/8
		s1 := turn(w[t-2], 17) ^ turn(w[t-2], 19) ^ w[t-2]/1024
		w[t] = (s1 + w[t-7] + s0 + w[t-16]) % m
	}
	var v [8]uint64
	for i, x := range state {
		v[i] = uint64(x)
	}
	for t, p := range primes(64) {
		a, b, c, e, f, g := v[0], v[1], v[2], v[4], v[5], v[6]
		ch := e&f | (m-1-e)&g
		maj := a&b | a&c | b&c
		t1 := v[7] + (turn(e, 6) ^ turn(e, 11) ^ turn(e, 25)) + ch + uint64(rootWord(p, 3)) + w[t]
		t2 := (turn(a, 2) ^ turn(a, 13) ^ turn(a, 22)) + maj
		v = [8]uint64{(t1 + t2) % m, a, b, c, (v[3] + t1) % m, e, f, g}
	}
	for i := range state {
		state[i] = uint32((uint64(state[i]) + v[i]) % m)
	}
	return state
}

func TestBlock(t *testing.T) {
	if got := sha.Block(sha.First(), [16]uint32{0x61626380, 15: 24}); got != sha.SumBytes([]byte("abc")) {
		t.Errorf("P2.1: Block of abc = %08x", got)
	}
	ones := slices.Repeat([]uint32{0xffffffff}, 24)
	for _, words := range [][]uint32{make([]uint32, 24), ones, scatter(24, 1), scatter(24, 2), scatter(24, 3), scatter(24, 4)} {
		state, block := sum(words), [16]uint32(words[8:])
		if got, want := sha.Block(state, block), numberBlock(state, block); got != want {
			t.Errorf("P2.1: Block(%08x, %08x) = %08x, want %08x", state, block, got, want)
		}
		if state != sum(words) || block != [16]uint32(words[8:]) {
			t.Error("P2.7: Block changed what it was handed")
		}
	}
}

func TestSumExamples(t *testing.T) {
	abcd := sum{0x88d4266f, 0xd4e6338d, 0x13b845fc, 0xf289579d, 0x209c8978, 0x23b9217d, 0xa3e16193, 0x6f031589}
	million := sum{0xcdc76e5c, 0x9914fb92, 0x81a1c7e2, 0x84d73e67, 0xf1809a48, 0xa497200e, 0x046d39cc, 0xc7112cd0}
	for _, c := range []struct {
		name      string
		got, want sum
	}{
		{"Sum(nil)", sha.Sum(nil), empty},
		{"Sum of an empty list", sha.Sum([]uint32{}), empty},
		{"SumBytes(nil)", sha.SumBytes(nil), empty},
		{"SumBytes of an empty list", sha.SumBytes([]byte{}), empty},
		{"SumBytes(abc)", sha.SumBytes([]byte("abc")), sum{0xba7816bf, 0x8f01cfea, 0x414140de, 0x5dae2223, 0xb00361a3, 0x96177a9c, 0xb410ff61, 0xf20015ad}},
		{"SumBytes(abcd)", sha.SumBytes([]byte("abcd")), abcd},
		{"Sum(0x61626364)", sha.Sum([]uint32{0x61626364}), abcd},
		{"SumBytes of 56 bytes", sha.SumBytes([]byte("abcdbcdecdefdefgefghfghighijhijkijkljklmklmnlmnomnopnopq")), sum{0x248d6a61, 0xd20638b8, 0xe5c02693, 0x0c3e6039, 0xa33ce459, 0x64ff2167, 0xf6ecedd4, 0x19db06c1}},
		{"SumBytes of a million bytes", sha.SumBytes([]byte(strings.Repeat("a", 1000000))), million},
		{"Sum of a quarter of a million words", sha.Sum(slices.Repeat([]uint32{0x61616161}, 250000)), million},
	} {
		if c.got != c.want {
			t.Errorf("P2.2: %s = %08x, want %08x", c.name, c.got, c.want)
		}
	}
}

func TestSumByLibrary(t *testing.T) {
	for n := range 300 {
		words := scatter(n, uint32(n))
		if got, want := sha.Sum(words), other(bytesOf(words)); got != want {
			t.Errorf("P2.2: Sum of %d words = %08x, want %08x", n, got, want)
		}
		b := bytesOf(scatter(80, uint32(n)))[:n]
		if got, want := sha.SumBytes(b), other(b); got != want {
			t.Errorf("P2.2: SumBytes of %d bytes = %08x, want %08x", n, got, want)
		}
	}
	for _, n := range []int{1024, 1<<18 - 1, 1 << 18} {
		words := scatter(n, 9)
		if got, want := sha.Sum(words), other(bytesOf(words)); got != want {
			t.Errorf("P2.2: Sum of %d words = %08x, want %08x", n, got, want)
		}
		b := bytesOf(words)[:4*n-1]
		if got, want := sha.SumBytes(b), other(b); got != want {
			t.Errorf("P2.2: SumBytes of %d bytes = %08x, want %08x", len(b), got, want)
		}
	}
}

func TestSumLeavesWhatItWasHanded(t *testing.T) {
	for n := range 70 {
		words := scatter(100, 5)
		sha.Sum(words[:n])
		sha.Sum(words[n:n])
		if !slices.Equal(words, scatter(100, 5)) {
			t.Fatalf("P2.7: Sum of %d words wrote into them or behind them", n)
		}
		b := bytesOf(words)
		sha.SumBytes(b[:n])
		if !slices.Equal(b, bytesOf(words)) {
			t.Fatalf("P2.7: SumBytes of %d bytes wrote into them or behind them", n)
		}
	}
}
