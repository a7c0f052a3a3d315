package asm_test

import (
	"slices"
	"strconv"
	"strings"
	"testing"

	"warden/api"
	"warden/asm"
	"warden/isa"
)

func enc(t *testing.T, i isa.Instr) uint32 {
	t.Helper()
	w, e := isa.Encode(i)
	if e != api.OK {
		t.Fatalf("no instruction: %+v", i)
	}
	return w
}

// takes: the text is the program of these words.
func takes(t *testing.T, source string, base uint32, want ...uint32) {
	t.Helper()
	got, f := asm.Assemble(source, base)
	if f != (asm.Fault{}) || !slices.Equal(got, want) {
		t.Errorf("P6.1: Assemble(%.60q, %#x) = %#x, %v, want %#x", source, base, got, f, want)
	}
}

// refuses: the text has that fault, at every base, for Labels too.
func refuses(t *testing.T, source string, e api.Errno, line, col int) {
	t.Helper()
	want := asm.Fault{Err: e, Line: line, Col: col}
	for _, base := range []uint32{0, 0x1000, 0xfffffffc} {
		if got, f := asm.Assemble(source, base); f != want || len(got) != 0 {
			t.Errorf("P6.1: Assemble(%.60q, %#x) = %#x, %v, want %v", source, base, got, f, want)
		}
	}
	if got, f := asm.Labels(source); f != want || len(got) != 0 {
		t.Errorf("P6.2: Labels(%.60q) = %v, %v, want %v", source, got, f, want)
	}
}

// labelled: the text has these labels, told as name and place.
func labelled(t *testing.T, source string, want ...asm.Label) {
	t.Helper()
	if got, f := asm.Labels(source); f != (asm.Fault{}) || !slices.Equal(got, want) {
		t.Errorf("P6.2: Labels(%.60q) = %v, %v, want %v", source, got, f, want)
	}
}

func TestExamples(t *testing.T) {
	takes(t, "movi r1 5\naddi r1 r1 -1 # down\n", 0,
		enc(t, isa.Instr{Op: isa.Movi, A: 1, Imm: 5}), enc(t, isa.Instr{Op: isa.Addi, A: 1, B: 1, Imm: -1}))
	loop := "x: cmpi r0 0\n b eq done\n addi r0 r0 -1\n b al x\ndone: svc 0"
	takes(t, loop, 0x1000,
		enc(t, isa.Instr{Op: isa.Cmpi}), enc(t, isa.Instr{Op: isa.B, Cond: isa.Eq, Imm: 2}),
		enc(t, isa.Instr{Op: isa.Addi, Imm: -1}), enc(t, isa.Instr{Op: isa.B, Imm: -4}), enc(t, isa.Instr{Op: isa.Svc}))
	labelled(t, loop, asm.Label{Name: "x", Place: 0}, asm.Label{Name: "done", Place: 4})
	movi := func(n int32) uint32 { return enc(t, isa.Instr{Op: isa.Movi, A: 2, Imm: n}) }
	movt := func(n int32) uint32 { return enc(t, isa.Instr{Op: isa.Movt, A: 2, Imm: n}) }
	takes(t, "li r2 end\nword end\nend:", 0x1000, movi(0x100c), movt(0), 0x100c)
	takes(t, "li r2 end\nword end\nend:", 0xfffffff8, movi(4), movt(0), 4)
	takes(t, "li r2 end\nword end\nend:", 0x7ffefff1, movi(0xfffd), movt(0x7ffe), 0x7ffefffd)
	takes(t, "word -1\nword 0xff\nzero 2", 0, 0xffffffff, 0xff, 0, 0)
	takes(t, "zero 2048\nzero 0", 0, make([]uint32, asm.MaxCode)...)
}

func TestExamplesOfFaults(t *testing.T) {
	refuses(t, "mov r1", api.ErrMore, 1, 1)
	refuses(t, "mov r1 r15", api.ErrOperand, 1, 8)
	refuses(t, "mov r1 r2 r3", api.ErrMore, 1, 11)
	refuses(t, "mvo r1 r2", api.ErrWord, 1, 1)
	refuses(t, "A: svc 0", api.ErrWord, 1, 1)
	refuses(t, "a: a: svc 0", api.ErrTwice, 1, 4)
	refuses(t, "svc 65536", api.ErrOperand, 1, 5)
	refuses(t, "b al nowhere", api.ErrLabel, 1, 6)
	refuses(t, "mov \"r1\" r2", api.ErrOperand, 1, 5)
	refuses(t, "bl x\nmov r1", api.ErrMore, 2, 1)
	refuses(t, "zero 2048\nsvc 0", api.ErrBig, 2, 1)
	refuses(t, "zero 2049", api.ErrOperand, 1, 6)
	refuses(t, "zero 2047\nli r1 0", api.ErrBig, 2, 1)
}

// Each Op, its operands at their limits; and what stands beyond them.
func TestInstructionsAndTheirOperands(t *testing.T) {
	good := map[byte][]string{
		'a': {"r0", "r9", "r10", "r14"}, 'b': {"r0", "r1", "r14"}, 'c': {"r0", "r13", "r14"},
		'k': {"al", "eq", "ne", "lt", "ge", "lo", "hs"},
		'u': {"0", "1", "32768", "65535", "0x0", "0xffff", "0x0000ffff"},
		's': {"0", "1", "-1", "32767", "-32768"}, 'o': {"0", "1", "-1", "32767", "-32768"},
	}
	noRegister := []string{"r15", "r16", "r00", "r01", "r014", "r-1", "r-0", "r+1", "r0x1", "r", "R1", "1", "0", "rr1", "r1:", "r1,", "x", "r4294967296", "r1\r", "\xff", "\"r1\"", "\"\""}
	bad := map[byte][]string{
		'a': noRegister, 'b': noRegister, 'c': noRegister,
		'k': {"AL", "a", "all", "xx", "0", "r0", "al:", "\"al\""},
		'u': {"65536", "0x10000", "-1", "+1", "01", "0xFF", "0x", "0x000000001", "x", "r1", "4294967296", "4294901760", "\"1\""},
		's': {"32768", "-32769", "-0", "0x1", "+1", "01", "--1", "-", "x", "r1", "65535", "4294967295", "\"1\""},
		'o': {"32768", "-32769", "-0", "0x1", "+1", "01", "x:", "X", "x-y", "_x", "x123456789012345678901234", "65535", "4294967295", "\"x\"", "\"1\""},
	}
	for op := isa.Movi; op < isa.Ops; op++ {
		shape := isa.Shape(op)
		for at := range len(shape) {
			words := []string{isa.Name(op)}
			for i := range len(shape) {
				words = append(words, good[shape[i]][0])
			}
			for _, w := range good[shape[at]] {
				words[at+1] = w
				line := strings.Join(words, " ")
				takes(t, line, 0x40, enc(t, fields(t, op, words[1:])))
			}
			col := 1 + len(strings.Join(words[:at+1], " ")) + 1
			for _, w := range bad[shape[at]] {
				words[at+1] = w
				refuses(t, strings.Join(words, " "), api.ErrOperand, 1, col)
			}
			refuses(t, strings.Join(words[:at+1], " "), api.ErrMore, 1, 1)
		}
	}
}

// fields: an instruction out of its name and operands that are right.
func fields(t *testing.T, op isa.Op, operands []string) isa.Instr {
	t.Helper()
	i := isa.Instr{Op: op}
	for at, w := range operands {
		letter := isa.Shape(op)[at]
		if letter == 'k' {
			i.Cond = isa.Cond(slices.Index([]string{"al", "eq", "ne", "lt", "ge", "lo", "hs"}, w))
			continue
		}
		n, err := strconv.ParseInt(strings.TrimPrefix(w, "r"), 0, 64)
		if err != nil {
			t.Fatal(err)
		}
		switch letter {
		case 'a':
			i.A = int(n)
		case 'b':
			i.B = int(n)
		case 'c':
			i.C = int(n)
		default:
			i.Imm = int32(n)
		}
	}
	return i
}

func TestWordsAndTheirNumbers(t *testing.T) {
	for s, w := range map[string]uint32{
		"0": 0, "1": 1, "2147483647": 0x7fffffff, "2147483648": 0x80000000, "4294967295": 0xffffffff,
		"0x0": 0, "0x00000001": 1, "0xffffffff": 0xffffffff, "0xabcdef12": 0xabcdef12,
		"-1": 0xffffffff, "-2": 0xfffffffe, "-65536": 0xffff0000, "-2147483648": 0x80000000,
	} {
		takes(t, "word "+s, 0x1234, w)
		for _, r := range []int{0, 7, 14} {
			takes(t, "li r"+strconv.Itoa(r)+" "+s, 0x1234,
				enc(t, isa.Instr{Op: isa.Movi, A: r, Imm: int32(w % 65536)}), enc(t, isa.Instr{Op: isa.Movt, A: r, Imm: int32(w / 65536)}))
		}
	}
	for _, s := range []string{"4294967296", "-2147483649", "-0", "-", "--1", "+1", "01", "-01", "0x", "0x123456789", "0xAB", "-0x1", "A", "a-b", "a:", "_", "\"1\"", "\"a\"", "\"\"", "abcdefghijklmnopqrstuvwxy", "1a", "\xc3\xa9"} {
		refuses(t, "word "+s, api.ErrOperand, 1, 6)
		refuses(t, "li r3 "+s, api.ErrOperand, 1, 7)
	}
	refuses(t, "word", api.ErrMore, 1, 1)
	refuses(t, "word 1 2", api.ErrMore, 1, 8)
	refuses(t, "li", api.ErrMore, 1, 1)
	refuses(t, "li r1", api.ErrMore, 1, 1)
	refuses(t, "li r1 1 2", api.ErrMore, 1, 9)
	refuses(t, "li r15 1", api.ErrOperand, 1, 4)
	refuses(t, "li 1 1", api.ErrOperand, 1, 4)
}

func TestZeros(t *testing.T) {
	for s, n := range map[string]int{"0": 0, "1": 1, "2048": 2048, "0x800": 2048, "0x0": 0, "0x00000002": 2} {
		takes(t, "zero "+s, 0, make([]uint32, n)...)
	}
	for _, s := range []string{"2049", "0x801", "-1", "-0", "4294967295", "4294967296", "01", "x", "r1", "\"1\""} {
		refuses(t, "zero "+s, api.ErrOperand, 1, 6)
	}
	refuses(t, "zero", api.ErrMore, 1, 1)
	refuses(t, "zero 1 2", api.ErrMore, 1, 8)
}

// The bound of a program: at the name, ahead of what is wrong with the operands; of a zero behind all that.
func TestBigPrograms(t *testing.T) {
	full := strings.Repeat("svc 0\n", asm.MaxCode)
	last := asm.MaxCode + 1
	takes(t, full+"end:\nzero 0", 0, slices.Repeat([]uint32{enc(t, isa.Instr{Op: isa.Svc})}, asm.MaxCode)...)
	for _, s := range []string{"svc 0", "svc", "svc x", "svc 0 0", "svc \"0\"", "word 1", "word x", "word", "li r1 1", "li", "li r15 1", "b al nowhere", "zero 1", "zero 2048"} {
		refuses(t, full+s, api.ErrBig, last, 1)
		refuses(t, full+" a: b:\t"+s, api.ErrBig, last, 8)
	}
	refuses(t, full+"mvo", api.ErrWord, last, 1)
	refuses(t, full+"\"svc\" 0", api.ErrWord, last, 1)
	refuses(t, full+"svc 0 \"", api.ErrQuote, last, 8)
	refuses(t, full+"A: svc 0", api.ErrWord, last, 1)
	refuses(t, full+"zero", api.ErrMore, last, 1)
	refuses(t, full+"zero 2049", api.ErrOperand, last, 6)
	refuses(t, full+"zero 1 2", api.ErrMore, last, 8)
	refuses(t, full+"zero 0 2", api.ErrMore, last, 8)
	refuses(t, "zero 2047\nli r1", api.ErrBig, 2, 1)
	refuses(t, "zero 2047\nsvc 0\nli r1 0", api.ErrBig, 3, 1)
	takes(t, "zero 2046\nli r0 0", 0, append(make([]uint32, 2046), enc(t, isa.Instr{Op: isa.Movi}), enc(t, isa.Instr{Op: isa.Movt}))...)
	refuses(t, "zero 1\nzero 2048", api.ErrBig, 2, 1)
	refuses(t, "zero 1024\nzero 1024\nzero 1\nmvo", api.ErrBig, 3, 1)
}

func TestStatementsNames(t *testing.T) {
	for _, s := range []string{"mvo", "Mov", "MOV", "words", "wor", "l", "lii", "zeros", "0", "5", "r1", "al", ".word", "a:b", ":a", "mov,", "\xff", "\"mov\"", "\"\"", "\"a:\"", "\"word\""} {
		refuses(t, s+" r1 r2", api.ErrWord, 1, 1)
		refuses(t, "svc 0\n\t a: "+s, api.ErrWord, 2, 6)
	}
	// Labels may have the names of statements, registers and conditions.
	takes(t, "svc: b al svc\nr1: word r1\nword: word al\nal: bl zero\nzero:", 8, enc(t, isa.Instr{Op: isa.B, Imm: -1}), 12, 20, enc(t, isa.Instr{Op: isa.Bl}))
}

func TestLinesAndColumns(t *testing.T) {
	svc := enc(t, isa.Instr{Op: isa.Svc})
	for _, s := range []string{"svc 0", "\tsvc\t0\t", "  svc   0  # a b c", "svc 0 #", "\n\n# one\n \t\nsvc 0\n\n", "a: b:\tsvc 0 # c:"} {
		takes(t, s, 0, svc)
	}
	refuses(t, "svc 0#", api.ErrOperand, 1, 5)
	refuses(t, "svc 0\r\n", api.ErrOperand, 1, 5)
	refuses(t, "svc 0 \r\n", api.ErrMore, 1, 7)
	refuses(t, "\r\nsvc 0", api.ErrWord, 1, 1)
	refuses(t, "\n\n\t svc 0 \t1", api.ErrMore, 3, 10)
	refuses(t, "svc 0; svc 0", api.ErrOperand, 1, 5)
	refuses(t, "svc 0 svc 0", api.ErrMore, 1, 7)
	refuses(t, "svc 0 a:", api.ErrMore, 1, 7)
	refuses(t, "svc a:", api.ErrOperand, 1, 5)
	refuses(t, "word \"a\"b", api.ErrQuote, 1, 9)
	refuses(t, "A: mvo \"", api.ErrQuote, 1, 9)
	refuses(t, "svc 0\n \"\\x41\"", api.ErrQuote, 2, 3)
	refuses(t, "mvo\nsvc \"", api.ErrWord, 1, 1)
	takes(t, "", 7)
	takes(t, "\n", 7)
	takes(t, "# nothing\n\n a:\n", 7)
}

func TestLongTexts(t *testing.T) {
	takes(t, strings.Repeat("#", api.MaxText), 0)
	takes(t, "svc 0\n"+strings.Repeat("#", api.MaxText-6), 0, enc(t, isa.Instr{Op: isa.Svc}))
	takes(t, strings.Repeat("\n", api.MaxText), 0)
	refuses(t, strings.Repeat("#", api.MaxText+1), api.ErrLong, 0, 0)
	refuses(t, "mvo\n"+strings.Repeat("\n", api.MaxText), api.ErrLong, 0, 0)
	refuses(t, strings.Repeat("\n", api.MaxText-3)+"mvo", api.ErrWord, api.MaxText-2, 1)
	// As many labels as a text may have, each in a line that another one follows.
	var text strings.Builder
	var want []asm.Label
	for i := 0; text.Len() < api.MaxText-8; i++ {
		name := "a" + strconv.FormatInt(int64(i), 36)
		text.WriteString(name + ":\n")
		want = append(want, asm.Label{Name: name})
	}
	labelled(t, text.String(), want...)
}

func TestLabels(t *testing.T) {
	at := func(name string, place int) asm.Label { return asm.Label{Name: name, Place: place} }
	labelled(t, "")
	labelled(t, "svc 0")
	labelled(t, "a: b:\n# c:\n\nc: li r1 a\nd:\nzero 0\ne: zero 3\nf: word 1\n g: h: # i:", at("a", 0), at("b", 0), at("c", 0), at("d", 2), at("e", 2), at("f", 5), at("g", 6), at("h", 6))
	labelled(t, "z: svc 0\na: svc 0\nm:", at("z", 0), at("a", 1), at("m", 2))
	labelled(t, "end:", at("end", 0))
	labelled(t, "a12345678901234567890_23: svc 0", at("a12345678901234567890_23", 0))
	labelled(t, "zero 2048\nend:", at("end", 2048))
	for _, s := range []string{":", "::", "a::", "a:b:", "A:", "1:", "_a:", "a-b:", "r1,:", "a1234567890123456789_1234:", "\xff:", "a\x00:", "a\":"} {
		refuses(t, "b:\t"+s+" svc 0", api.ErrWord, 1, 4)
	}
	refuses(t, "a:\n b: a:", api.ErrTwice, 2, 5)
	refuses(t, "a: svc 0\nb: svc 0\n  a: mvo", api.ErrTwice, 3, 3)
	refuses(t, "a: A: a:", api.ErrWord, 1, 4)
	refuses(t, "a: a: A:", api.ErrTwice, 1, 4)
}

// Labels as operands: ahead of their definition and behind it, as distances and as addresses.
func TestLabelsAsOperands(t *testing.T) {
	b := func(c isa.Cond, n int32) uint32 { return enc(t, isa.Instr{Op: isa.B, Cond: c, Imm: n}) }
	bl := func(n int32) uint32 { return enc(t, isa.Instr{Op: isa.Bl, Imm: n}) }
	takes(t, "a: b al a\nbl a\nb lt c\nbl c\nc: b hs c\nbl end\nend:", 0xabc, b(isa.Always, -1), bl(-2), b(isa.Lt, 1), bl(0), b(isa.Hs, -1), bl(0))
	takes(t, "word a\nword b\na: word a\nword b\nb:", 0x1002, 0x100a, 0x1012, 0x100a, 0x1012)
	takes(t, "word a\na:", 0xfffffffc, 0)
	takes(t, "word a\nzero 2046\nbl a\na:", 0xffffe001, append(append([]uint32{1}, make([]uint32, 2046)...), bl(0))...)
	takes(t, "bl end\nzero 2046\nend: bl 0", 0, append(append([]uint32{bl(2046)}, make([]uint32, 2046)...), bl(0))...)
	takes(t, "top: zero 2047\nb ge top", 0, append(make([]uint32, 2047), b(isa.Ge, -2048))...)
	takes(t, "li r1 end\nli r14 end\nend:", 0x89abffff,
		enc(t, isa.Instr{Op: isa.Movi, A: 1, Imm: 0x000f}), enc(t, isa.Instr{Op: isa.Movt, A: 1, Imm: 0x89ac}),
		enc(t, isa.Instr{Op: isa.Movi, A: 14, Imm: 0x000f}), enc(t, isa.Instr{Op: isa.Movt, A: 14, Imm: 0x89ac}))
	refuses(t, "a: b al a\n  word  x\nbl y", api.ErrLabel, 2, 9)
	refuses(t, "bl x\nword y\nx:", api.ErrLabel, 2, 6)
	refuses(t, "x: li r1 xx", api.ErrLabel, 1, 10)
	refuses(t, "b al a\nword b\na: a: svc 0", api.ErrTwice, 3, 4)
	refuses(t, "word x\nzero 2048", api.ErrBig, 2, 1)
	refuses(t, "b al al", api.ErrLabel, 1, 6)
}

// What was answered is the caller's: it may write there, the spare room too, and nobody learns of it.
func TestAnswersAreNewMemory(t *testing.T) {
	const source = "a: word a\nb: li r1 b\nzero 3\nc: bl a"
	words, f := asm.Assemble(source, 16)
	labels, g := asm.Labels(source)
	if f != (asm.Fault{}) || g != f || len(words) != 7 || len(labels) != 3 {
		t.Fatalf("P6.1: %x, %v, %v, %v", words, f, labels, g)
	}
	wantWords, wantLabels := slices.Clone(words), slices.Clone(labels)
	for range 3 {
		clear(words[:cap(words)])
		clear(labels[:cap(labels)])
		words, _ = asm.Assemble(source, 16)
		labels, _ = asm.Labels(source)
		other, _ := asm.Assemble(source, 16)
		clear(other[:cap(other)])
		if !slices.Equal(words, wantWords) || !slices.Equal(labels, wantLabels) {
			t.Fatalf("P6.6: the same call answers %x, %v, and before %x, %v", words, labels, wantWords, wantLabels)
		}
	}
}
