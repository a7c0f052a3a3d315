package isa_test

import (
	"math"
	"strings"
	"testing"

	"warden/api"
	"warden/isa"
)

// shapes: by the Op's number; laid out once, as millions of words are looked at.
var shapes = func() map[isa.Op]string {
	out := map[isa.Op]string{}
	for _, r := range table() {
		out[isa.Op(r.number)] = r.shape
	}
	return out
}()

// checkByWords: the chapter's sentences, field by field.
func checkByWords(i isa.Instr) api.Errno {
	shape := shapes[i.Op]
	if shape == "" {
		return api.ErrCode
	}
	may := func(letter string, v, least, most int64) bool {
		if strings.Contains(shape, letter) {
			return least <= v && v <= most
		}
		return v == 0
	}
	imm := int64(i.Imm)
	good := may("a", int64(i.A), 0, 14) && may("b", int64(i.B), 0, 14) && may("c", int64(i.C), 0, 14) && may("k", int64(i.Cond), 0, 6)
	switch {
	case strings.Contains(shape, "u"):
		good = good && 0 <= imm && imm <= 65535
	case strings.ContainsAny(shape, "so"):
		good = good && -32768 <= imm && imm <= 32767
	default:
		good = good && imm == 0
	}
	if !good {
		return api.ErrField
	}
	return api.OK
}

// wordByNumbers: of an instruction that may be: each field times the worth of its lowest bit; what isn't used is 0.
func wordByNumbers(i isa.Instr) uint32 {
	const a, b, c = 1 << 22, 1 << 18, 1 << 14
	imm := (int64(i.Imm) + 1<<16) % (1 << 16)
	return uint32(int64(i.Op)<<26 + int64(i.A)*a + int64(i.Cond)*a + int64(i.B)*b + int64(i.C)*c + imm)
}

// decodeByBits: the chapter's section on the word: the bits are cut by the shape, and no other one may be set.
func decodeByBits(w uint32) (isa.Instr, api.Errno) {
	i := isa.Instr{Op: isa.Op(w / (1 << 26))}
	shape := shapes[i.Op]
	mask := uint32(0xfc000000)
	for _, letter := range shape {
		switch letter {
		case 'a':
			i.A, mask = int(w/(1<<22)%16), mask|0x03c00000
		case 'b':
			i.B, mask = int(w/(1<<18)%16), mask|0x003c0000
		case 'c':
			i.C, mask = int(w/(1<<14)%16), mask|0x0003c000
		case 'k':
			i.Cond, mask = isa.Cond(w/(1<<22)%8), mask|0x01c00000
		case 'u':
			i.Imm, mask = int32(w%(1<<16)), mask|0xffff
		case 's', 'o':
			i.Imm, mask = int32(int16(w)), mask|0xffff
		}
	}
	if shape == "" || w&^mask != 0 || i.A == 15 || i.B == 15 || i.C == 15 || i.Cond == 7 {
		return isa.Instr{}, api.ErrCode
	}
	return i, api.OK
}

func TestExamples(t *testing.T) {
	for _, x := range []struct {
		i isa.Instr
		w uint32
		e api.Errno
	}{
		{isa.Instr{Op: isa.Movi, A: 3, Imm: 5}, 0x04c00005, api.OK},
		{isa.Instr{Op: isa.Movi, A: 3, Imm: -1}, 0, api.ErrField},
		{isa.Instr{Op: isa.Movi, A: 15}, 0, api.ErrField},
		{isa.Instr{Op: isa.Movi, B: 1}, 0, api.ErrField},
		{isa.Instr{Op: isa.Mov, Imm: 1}, 0, api.ErrField},
		{isa.Instr{Op: isa.B, Cond: 7}, 0, api.ErrField},
		{isa.Instr{Op: isa.B, A: 1}, 0, api.ErrField},
		{isa.Instr{Op: 0}, 0, api.ErrCode},
		{isa.Instr{Op: 25}, 0, api.ErrCode},
		{isa.Instr{Op: -3}, 0, api.ErrCode},
		{isa.Instr{Op: isa.Add, A: 1, B: 2, C: 3}, 0x1048c000, api.OK},
		{isa.Instr{Op: isa.Addi, A: 1, B: 2, Imm: -1}, 0x3848ffff, api.OK},
		{isa.Instr{Op: isa.Ldr, A: 0, B: 14, Imm: -4}, 0x3c38fffc, api.OK},
		{isa.Instr{Op: isa.B, Cond: isa.Ne, Imm: -2}, 0x5480fffe, api.OK},
		{isa.Instr{Op: isa.Bl, Imm: 100}, 0x58000064, api.OK},
		{isa.Instr{Op: isa.Br, A: 14}, 0x5f800000, api.OK},
		{isa.Instr{Op: isa.Svc, Imm: 65535}, 0x6000ffff, api.OK},
	} {
		if e := isa.Check(x.i); e != x.e {
			t.Errorf("P5.2: Check(%+v) = %d, want %d", x.i, e, x.e)
		}
		if w, e := isa.Encode(x.i); w != x.w || e != x.e {
			t.Errorf("P5.3: Encode(%+v) = %#08x, %d, want %#08x, %d", x.i, w, e, x.w, x.e)
		}
		if i, e := isa.Decode(x.w); x.e == api.OK && (i != x.i || e != api.OK) {
			t.Errorf("P5.4: Decode(%#08x) = %+v, %d, want %+v", x.w, i, e, x.i)
		}
	}
	for _, w := range []uint32{0, 0x04c10005, 0x07c00005, 0x55c00000, 0x5600fffe, 0x64000000, 0xffffffff} {
		if i, e := isa.Decode(w); i != (isa.Instr{}) || e != api.ErrCode {
			t.Errorf("P5.4: Decode(%#08x) = %+v, %d, want ErrCode", w, i, e)
		}
	}
}

// lookAt: all that the promises say of one instruction, may it be or not.
func lookAt(t *testing.T, i isa.Instr) {
	t.Helper()
	want := checkByWords(i)
	if e := isa.Check(i); e != want {
		t.Fatalf("P5.2: Check(%+v) = %d, want %d", i, e, want)
	}
	w, e := isa.Encode(i)
	if want != api.OK {
		if w != 0 || e != want {
			t.Fatalf("P5.3: Encode(%+v) = %#08x, %d, want 0, %d", i, w, e, want)
		}
		return
	}
	if w != wordByNumbers(i) || e != api.OK {
		t.Fatalf("P5.3: Encode(%+v) = %#08x, %d, want %#08x", i, w, e, wordByNumbers(i))
	}
	if back, e := isa.Decode(w); back != i || e != api.OK {
		t.Fatalf("P5.5: %+v is %#08x, which is %+v, %d", i, w, back, e)
	}
}

// edges: of a field that is an int: the limits, and numbers that would be small if their upper bits got lost.
func edges() []int {
	return []int{0, 1, 2, 6, 7, 8, 13, 14, 15, 16, 17, -1, -2, -16, 255, 256, 65535, 65536, 1 << 31, 1 << 32, 1<<32 + 3, -1 << 32, math.MaxInt, math.MinInt, math.MinInt + 3}
}

func immEdges() []int32 {
	return []int32{0, 1, 2, -1, -2, 255, 256, 32766, 32767, 32768, 32769, 65534, 65535, 65536, 65537, 131071, -32767, -32768, -32769, -65535, -65536, -65537, math.MaxInt32, math.MaxInt32 - 1, math.MinInt32, math.MinInt32 + 1}
}

func TestEachFieldAtItsEdges(t *testing.T) {
	for op := isa.Op(-1); op <= isa.Ops+1; op++ {
		for _, v := range edges() {
			lookAt(t, isa.Instr{Op: op, A: v})
			lookAt(t, isa.Instr{Op: op, B: v})
			lookAt(t, isa.Instr{Op: op, C: v})
			lookAt(t, isa.Instr{Op: op, Cond: isa.Cond(v)})
		}
		for _, v := range immEdges() {
			lookAt(t, isa.Instr{Op: op, Imm: v})
		}
	}
}

func TestFieldsTogether(t *testing.T) {
	few := []int{0, 1, 14, 15, -1}
	for op := isa.Op(0); op <= isa.Ops; op++ {
		for _, a := range few {
			for _, b := range few {
				for _, c := range few {
					for _, k := range []isa.Cond{0, 1, 6, 7, -1} {
						for _, imm := range []int32{0, 1, -1, 32767, 32768, -32768, -32769, 65535, 65536} {
							lookAt(t, isa.Instr{Op: op, Cond: k, A: a, B: b, C: c, Imm: imm})
						}
					}
				}
			}
		}
	}
}

func TestNoOpStandsAheadOfNoField(t *testing.T) {
	for _, n := range noOps() {
		for _, i := range []isa.Instr{{}, {A: 99}, {B: -1}, {C: 15}, {Cond: 7}, {Imm: math.MinInt32}, {Cond: -1, A: -1, B: -1, C: -1, Imm: -1}} {
			i.Op = isa.Op(n)
			if e := isa.Check(i); e != api.ErrCode {
				t.Errorf("P5.2: Check(%+v) = %d, want ErrCode", i, e)
			}
			if w, e := isa.Encode(i); w != 0 || e != api.ErrCode {
				t.Errorf("P5.3: Encode(%+v) = %#08x, %d, want 0, ErrCode", i, w, e)
			}
		}
	}
}

func TestAllRegistersAndConditions(t *testing.T) {
	for _, r := range table() {
		for a := range 16 {
			for b := range 16 {
				for c := range 16 {
					lookAt(t, isa.Instr{Op: r.op, A: a, B: b, C: c})
				}
			}
			lookAt(t, isa.Instr{Op: r.op, Cond: isa.Cond(a), Imm: -5})
		}
	}
}

func TestAllNumbers(t *testing.T) {
	for _, r := range table() {
		i := isa.Instr{Op: r.op}
		if strings.Contains(r.shape, "a") {
			i.A = 9
		}
		for n := range int32(3 << 15) {
			i.Imm = n - 1<<15
			lookAt(t, i)
		}
	}
}

// lookAtWord: what the promises say of one word; whether it is an instruction's.
func lookAtWord(t *testing.T, w uint32) bool {
	t.Helper()
	want, e := decodeByBits(w)
	i, got := isa.Decode(w)
	if i != want || got != e {
		t.Fatalf("P5.4: Decode(%#08x) = %+v, %d, want %+v, %d", w, i, got, want, e)
	}
	if got != api.OK {
		return false
	}
	if e := isa.Check(i); e != api.OK {
		t.Fatalf("P5.5: Decode(%#08x) = %+v, of which Check says %d", w, i, e)
	}
	if back, e := isa.Encode(i); back != w || e != api.OK {
		t.Fatalf("P5.5: %#08x is %+v, which is %#08x, %d", w, i, back, e)
	}
	return true
}

// The upper 18 bits are those of Op and registers, so each of their patterns is seen, with some of the bits below.
func TestWordsByTheirUpperBits(t *testing.T) {
	taken := map[string]int{}
	for upper := range uint32(1 << 18) {
		for _, lower := range []uint32{0, 1, 1 << 13, 0x3fff} {
			if w := upper<<14 | lower; lookAtWord(t, w) && lower == 0 {
				taken[isa.Name(isa.Op(w>>26))]++
			}
		}
	}
	// With the lowest 14 bits 0 a number has two bits left, so each counts four.
	counts := map[string]int{"au": 15 * 4, "ab": 15 * 15, "abc": 15 * 15 * 15, "abs": 15 * 15 * 4, "as": 15 * 4, "ko": 7 * 4, "o": 4, "a": 15, "u": 4}
	for _, r := range table() {
		if taken[r.name] != counts[r.shape] {
			t.Errorf("P5.5: of %s %d words are instructions, want %d", r.name, taken[r.name], counts[r.shape])
		}
	}
	if len(taken) != 24 {
		t.Errorf("P5.4: words of %d Ops are taken", len(taken))
	}
}

func TestWordsByTheirLowerBits(t *testing.T) {
	for op := range uint32(64) {
		for lower := range uint32(1 << 16) {
			lookAtWord(t, op<<26|lower)
		}
		for _, register := range []uint32{1, 7, 14, 15} {
			for lower := uint32(0); lower < 1<<18; lower += 61 {
				lookAtWord(t, op<<26|register<<22|register<<18|lower)
			}
		}
	}
}

// One bit beside an instruction's word there is another instruction, or none; never the same.
func TestOneBitBeside(t *testing.T) {
	for _, r := range table() {
		i := isa.Instr{Op: r.op}
		w, e := isa.Encode(i)
		if e != api.OK {
			t.Fatalf("P5.3: Encode(%+v): %d", i, e)
		}
		for bit := range 32 {
			lookAtWord(t, w^1<<bit)
			if other, e := isa.Decode(w ^ 1<<bit); e == api.OK && other == i {
				t.Errorf("P5.5: %#08x and %#08x are both %+v", w, w^1<<bit, i)
			}
		}
	}
}
