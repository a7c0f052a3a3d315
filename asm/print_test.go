package asm_test

import (
	"math/rand"
	"slices"
	"strconv"
	"strings"
	"testing"

	"warden/api"
	"warden/asm"
	"warden/isa"
)

func TestPrintExamples(t *testing.T) {
	b := func(n int32) uint32 { return enc(t, isa.Instr{Op: isa.B, Imm: n}) }
	bl := func(n int32) uint32 { return enc(t, isa.Instr{Op: isa.Bl, Imm: n}) }
	for _, c := range []struct {
		words []uint32
		want  string
	}{
		{nil, ""},
		{[]uint32{}, ""},
		{[]uint32{b(-1), 7}, "l0:\nb al l0\nword 0x00000007\n"},
		{[]uint32{bl(0)}, "bl l0\nl0:\n"},
		{[]uint32{bl(1)}, "bl 1\n"},
		{[]uint32{bl(-2)}, "bl -2\n"},
		{[]uint32{bl(-1)}, "l0:\nbl l0\n"},
		{[]uint32{0, bl(-2), bl(0), bl(1)}, "l0:\nword 0x00000000\nbl l0\nbl l1\nl1:\nbl 1\n"},
		{[]uint32{bl(2), b(-2), bl(0), b(0), b(-1)}, "l0:\nbl l1\nb al l0\nbl l1\nl1:\nb al l2\nl2:\nb al l2\n"},
		{[]uint32{bl(32767), bl(-32768), b(32767), b(-32768)}, "bl 32767\nbl -32768\nb al 32767\nb al -32768\n"},
		{[]uint32{bl(1) | 1<<20, b(0) | 7<<22}, "word 0x58100001\nword 0x55c00000\n"},
		{[]uint32{enc(t, isa.Instr{Op: isa.Br}), enc(t, isa.Instr{Op: isa.Addi, Imm: -1}), enc(t, isa.Instr{Op: isa.Svc})}, "br r0\naddi r0 r0 -1\nsvc 0\n"},
	} {
		for _, base := range []uint32{0, 0x1000, 0xfffffffd} {
			if got, e := asm.Print(c.words, base); got != c.want || e != api.OK {
				t.Errorf("P6.3: Print(%#x, %#x) = %q, %d, want %q", c.words, base, got, e, c.want)
			}
		}
	}
}

func TestPrintOfManyWords(t *testing.T) {
	back := slices.Repeat([]uint32{enc(t, isa.Instr{Op: isa.B, Cond: isa.Hs, Imm: -1})}, asm.MaxCode+1)
	if got, e := asm.Print(back, 0); got != "" || e != api.ErrBig {
		t.Errorf("P6.3: Print of %d words: %d bytes, %d", len(back), len(got), e)
	}
	var want strings.Builder
	for i := range asm.MaxCode {
		k := strconv.Itoa(i)
		want.WriteString("l" + k + ":\nb hs l" + k + "\n")
	}
	if got, e := asm.Print(back[:asm.MaxCode], 0); got != want.String() || e != api.OK {
		t.Errorf("P6.3: Print of %d words: %d bytes, %d, want %d bytes", asm.MaxCode, len(got), e, want.Len())
	}
	// The longest lines that there are.
	long := slices.Repeat([]uint32{enc(t, isa.Instr{Op: isa.Addi, A: 14, B: 14, Imm: -32768})}, asm.MaxCode)
	comesBack(t, long)
	comesBack(t, back[:asm.MaxCode])
	comesBack(t, make([]uint32, asm.MaxCode))
}

// comesBack: P6.4, at some bases.
func comesBack(t *testing.T, words []uint32) {
	t.Helper()
	s, e := asm.Print(words, 0x2000)
	if e != api.OK {
		t.Fatalf("P6.3: Print of %d words: %d", len(words), e)
	}
	for _, base := range []uint32{0, 0x2000, 0xfffffffe} {
		if got, f := asm.Assemble(s, base); f != (asm.Fault{}) || !slices.Equal(got, words) {
			t.Fatalf("P6.4: %d words come back as %d, %v, at base %#x; the text is %.100q", len(words), len(got), f, base, s)
		}
	}
}

// printed: P6.3 once more: first the targets as a sorted list, then line by line.
func printed(words []uint32) string {
	goal := func(place int) int {
		i, e := isa.Decode(words[place])
		if e != api.OK || isa.Name(i.Op) != "b" && isa.Name(i.Op) != "bl" {
			return -1
		}
		return place + 1 + int(i.Imm)
	}
	var targets []int
	for place := range words {
		if to := goal(place); to >= 0 && to <= len(words) {
			targets = append(targets, to)
		}
	}
	slices.Sort(targets)
	targets = slices.Compact(targets)
	out := ""
	for place := 0; place <= len(words); place++ {
		if k := slices.Index(targets, place); k >= 0 {
			out += "l" + strconv.Itoa(k) + ":\n"
		}
		if place == len(words) {
			break
		}
		line := told(words[place])
		if k := slices.Index(targets, goal(place)); k >= 0 {
			line = line[:strings.LastIndex(line, " ")] + " l" + strconv.Itoa(k)
		}
		out += line + "\n"
	}
	return out
}

// told: P6.5 once more.
func told(w uint32) string {
	i, e := isa.Decode(w)
	if e != api.OK {
		s := strconv.FormatUint(uint64(w), 16)
		return "word 0x" + strings.Repeat("0", 8-len(s)) + s
	}
	words := []string{isa.Name(i.Op)}
	for _, letter := range isa.Shape(i.Op) {
		n, ahead := int(i.Imm), ""
		switch letter {
		case 'a', 'b', 'c':
			n, ahead = map[rune]int{'a': i.A, 'b': i.B, 'c': i.C}[letter], "r"
		case 'k':
			words = append(words, isa.CondName(i.Cond))
			continue
		}
		words = append(words, ahead+strconv.Itoa(n))
	}
	return strings.Join(words, " ")
}

// randomWord: mostly an instruction, often a jump that doesn't go far.
func randomWord(r *rand.Rand) uint32 {
	switch r.Intn(4) {
	case 0:
		return r.Uint32()
	case 1:
		w, _ := isa.Encode(isa.Instr{Op: isa.B, Cond: isa.Cond(r.Intn(7)), Imm: int32(r.Intn(12) - 6)})
		return w
	case 2:
		w, _ := isa.Encode(isa.Instr{Op: isa.Bl, Imm: int32(r.Intn(40) - 20)})
		return w
	}
	for {
		if w := r.Uint32() >> uint(r.Intn(7)); told(w)[:5] != "word " {
			return w
		}
	}
}

func TestPrintOfRandomWords(t *testing.T) {
	r := rand.New(rand.NewSource(63))
	for range 5000 {
		words := make([]uint32, r.Intn(20))
		for i := range words {
			words[i] = randomWord(r)
		}
		room := append(slices.Clone(words), 1, 2, 3)
		got, e := asm.Print(room[:len(words)], r.Uint32())
		if want := printed(words); got != want || e != api.OK {
			t.Fatalf("P6.3: Print(%#x) = %q, %d, want %q", words, got, e, want)
		}
		if again, _ := asm.Print(words, r.Uint32()); again != got || !slices.Equal(room, append(words, 1, 2, 3)) {
			t.Fatalf("P6.6: Print(%#x) = %q, then %q; what was handed in is %#x", words, got, again, room)
		}
		comesBack(t, words)
	}
}

// lineComesBack: P6.5 of one word.
func lineComesBack(t *testing.T, w uint32) {
	t.Helper()
	line := asm.Line(w)
	if want := told(w); line != want {
		t.Fatalf("P6.5: Line(%#08x) = %q, want %q", w, line, want)
	}
	if got, f := asm.Assemble(line, w^0x5a5a5a5a); f != (asm.Fault{}) || len(got) != 1 || got[0] != w {
		t.Fatalf("P6.5: Assemble(%q) = %#x, %v, want %#08x", line, got, f, w)
	}
}

func TestLineExamples(t *testing.T) {
	for want, i := range map[string]isa.Instr{
		"ldr r1 r2 -4":  {Op: isa.Ldr, A: 1, B: 2, Imm: -4},
		"movi r0 65535": {Op: isa.Movi, Imm: 65535},
		"movt r14 0":    {Op: isa.Movt, A: 14},
		"mov r10 r9":    {Op: isa.Mov, A: 10, B: 9},
		"stx r1 r2 r3":  {Op: isa.Stx, A: 1, B: 2, C: 3},
		"cmpi r3 32767": {Op: isa.Cmpi, A: 3, Imm: 32767},
		"b al -32768":   {Op: isa.B, Imm: -32768},
		"b hs 0":        {Op: isa.B, Cond: isa.Hs},
		"bl -1":         {Op: isa.Bl, Imm: -1},
		"br r14":        {Op: isa.Br, A: 14},
		"svc 7":         {Op: isa.Svc, Imm: 7},
	} {
		if got := asm.Line(enc(t, i)); got != want {
			t.Errorf("P6.5: Line of %+v = %q, want %q", i, got, want)
		}
	}
	for w, want := range map[uint32]string{0: "word 0x00000000", 7: "word 0x00000007", 0xffffffff: "word 0xffffffff", 0x64000000: "word 0x64000000", 0x07c00005: "word 0x07c00005"} {
		if got := asm.Line(w); got != want {
			t.Errorf("P6.5: Line(%#x) = %q, want %q", w, got, want)
		}
	}
}

// Each Op with each register, condition and edge of its number, and each such word with one bit turned.
func TestLinesOfManyWords(t *testing.T) {
	for op := isa.Movi; op < isa.Ops; op++ {
		for n := range 16 {
			for _, imm := range []int32{0, 1, -1, 9, 10, -10, 32767, -32768, 32768, 65535} {
				i := isa.Instr{Op: op}
				for _, letter := range isa.Shape(op) {
					switch letter {
					case 'a':
						i.A = n % 15
					case 'b':
						i.B = (n + 4) % 15
					case 'c':
						i.C = (n + 9) % 15
					case 'k':
						i.Cond = isa.Cond(n % 7)
					default:
						i.Imm = imm
					}
				}
				w, e := isa.Encode(i)
				if e != api.OK {
					continue
				}
				lineComesBack(t, w)
				for bit := range 32 {
					lineComesBack(t, w^1<<bit)
				}
			}
		}
	}
	r := rand.New(rand.NewSource(65))
	for range 20000 {
		lineComesBack(t, r.Uint32())
		lineComesBack(t, randomWord(r))
	}
}
