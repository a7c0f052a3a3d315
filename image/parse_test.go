package image_test

import (
	"fmt"
	"math/rand"
	"slices"
	"strings"
	"testing"

	"warden/api"
	"warden/image"
)

func TestLinesOfParts(t *testing.T) {
	for n, index := range map[string]int{"0": 0, "0x0": 0, "7": 7, "0x7": 7, "0x00000007": 7, "255": 255, "0xff": 255} {
		takes(t, "table "+n, table(index))
	}
	takes(t, "table 0\nshare 0x1000 r\nshare 8192 rw", table(0), share(0x1000, "r"), share(0x2000, "rw"))
	takes(t, "thread 0\nthread 4294967295\nthread 0xffffffff\nthread 3", thread(0), thread(0xffffffff), thread(0xffffffff), thread(3))
	takes(t, "spare\nspare", spare(), spare())
	takes(t, "table 255\ndata 0x3ffff000 r\nend\ndata 0x3fffe000 rw\nend\ndata 0x3fffd000 rx\nend\nshare 0x3fffc000 rw\ndata 0x3fffb000 rwx\nend",
		table(255), data(0x3ffff000, "r"), data(0x3fffe000, "rw"), data(0x3fffd000, "rx"), share(0x3fffc000, "rw"), data(0x3fffb000, "rwx"))
	for _, s := range []string{
		"table", "table x", "table 00", "table 256", "table 4294967295", "table 4294967296", "table -1", "table 0 1", "table 0x", "table 0xFF", "table 0x100", "table 0x80000000", "table 0xffffffff",
		"share", "share 0x1000", "share 0x1000 w", "share 0x1000 x", "share 0x1000 rwx", "share 0x1000 wr", "share 0x1000 R", "share 0x1000 r r", "share r 0x1000", "share 0x1001 r", "share 0x40000000 r", "share 0x400000 r", "share 0x800 rw",
		"thread", "thread x", "thread 0 0", "thread -1", "thread 0x100000000", "thread r",
		"spare 0", "spare spare", "spares", "Spare", "spare\r", "spare#", "table:", "part", "0", "r",
		"data", "data 0x1000", "data 0x1000 w", "data 0x1000 x", "data 0x1000 xr", "data 0x1000 rxw", "data 0x1000 rw rw", "data 0x1004 r", "data 0x40000000 r", "data 0xfffff000 r", "data 0x400000 r",
		"end", "done", "code", "word", "word 1", "fill 1 1", "end end",
		"\"spare\"", "\"\"", "spare \"\"", "table \"0\"", "thread \"0\"", "\"table\" 0", "share 0x1000 \"r\"", "data \"0x1000\" r",
	} {
		refuses(t, "table 0\n \t\n# x\n"+s+"\nspare\ntable 0\nend\n", api.ErrImage, 4)
		refuses(t, "table 0\n"+s, api.ErrImage, 2)
	}
	for _, s := range []string{"\"", "spare \"", "\"spare", "table 0 \"x\"y", "\"\\x41\"", "x \"\t\"", "end \""} {
		refuses(t, "table 0\n"+s+"\nspare x", api.ErrQuote, 2)
		refuses(t, "table 0\ndata 0 r\n"+s+"\nspare x", api.ErrQuote, 3)
	}
}

func TestLinesThatSayNothing(t *testing.T) {
	takes(t, "\n\n\n")
	takes(t, " \t \n#\n # \"\n")
	takes(t, "\n table\t0 # x\n\n  data 0x1000  rw # \n end\n\t", table(0), data(0x1000, "rw"))
	refuses(t, "\n table\t0 # x\n\n  data 0x1000  rw# \n end\n", api.ErrImage, 4)
}

func TestLinesOfWords(t *testing.T) {
	const head = "table 0\ndata 0x1000 rw\n"
	page := func(words ...uint32) []image.Part { return []image.Part{table(0), data(0x1000, "rw", words...)} }
	takes(t, head+"end", page()...)
	takes(t, head+"\n#\n \nend # x\n", page()...)
	takes(t, head+"word 1\nend", page(1)...)
	takes(t, head+"word 1 0x2 4294967295\n\nword 0\nend", page(1, 2, 0xffffffff, 0)...)
	takes(t, head+"fill 1 5\nfill 0x3 0xffffffff\nword 7\nend", page(5, 0xffffffff, 0xffffffff, 0xffffffff, 7)...)
	takes(t, head+"word "+strings.Repeat(" 9", 1024)+"\nend", page(slices.Repeat([]uint32{9}, 1024)...)...)
	takes(t, head+"fill 1024 9\nend", page(slices.Repeat([]uint32{9}, 1024)...)...)
	takes(t, head+"fill 1023 9\nword 8\nend\nspare", append(page(append(slices.Repeat([]uint32{9}, 1023), 8)...), spare())...)
	for _, s := range []string{
		"word", "word x", "word -1", "word 1 x", "word 1, 2", "word 01", "word 4294967296", "word 0x123456789", "word 0xA", "word \"1\"", "word 1 \"\"", "\"word\" 1", "words 1",
		"fill", "fill 1", "fill 1 1 1", "fill 0 1", "fill 1025 1", "fill 4294967295 1", "fill 4294967296 1", "fill -1 1", "fill x 1", "fill 1 x", "fill 1 -1", "fill \"1\" 1", "fill 0x401 1",
		"code x", "code code", "\"code\"", "codes", "end x", "end end", "\"end\"", "ends", "done", "done x", "svc 0",
		"table 1", "data 0x2000 r", "share 0x2000 r", "thread 0", "spare",
		"word " + strings.Repeat("1 ", 1025),
	} {
		refuses(t, head+s+"\nend", api.ErrImage, 3)
		refuses(t, head+"\nword 1\n"+s, api.ErrImage, 5)
	}
}

// The line behind which a page has too many words.
func TestTooManyWords(t *testing.T) {
	const head = "table 0\ndata 0 r\n"
	for _, first := range []string{"fill 1024 1", "fill 1000 1\nfill 24 1", "code\nzero 1024\ndone", "fill 1023 1\ncode\nsvc 0\ndone", "fill 1000 1\nword " + strings.Repeat("2 ", 24)} {
		lines := 3 + strings.Count(first, "\n")
		for _, s := range []string{"end", "\nend", "code\ndone\nend", "code\n# x\nx:\nzero 0\ndone\nend"} {
			if _, f := reads(t, head+first+"\n"+s); f != (image.Fault{}) {
				t.Errorf("P23.2: %q, %q: %+v", first, s, f)
			}
		}
		for s, at := range map[string]int{"word 1": 1, "\nword 1 2 x": 2, "fill 1 1": 1, "fill 1024 1": 1, "code\nsvc 0\ndone": 3, "code\nzero 2048\n\ndone\nx": 4, "code\ndone\nword 1": 3} {
			refuses(t, head+first+"\n"+s+"\nend", api.ErrImage, lines+at)
		}
	}
	refuses(t, head+"code\nzero 1025\ndone\nend", api.ErrImage, 5)
	refuses(t, head+"code\nzero 2048\nzero 1\ndone\nend", api.ErrBig, 5)
	refuses(t, head+"fill 1 1\ncode\nli r0 1\nzero 1022\ndone\nend", api.ErrImage, 7)
}

func TestBlocksOfCode(t *testing.T) {
	const head = "table 1\ndata 0x400000 rx\n"
	page := func(words ...uint32) []image.Part { return []image.Part{table(1), data(0x400000, "rx", words...)} }
	takes(t, head+"code\ndone\nend", page()...)
	takes(t, head+"code\n\n # x\n\t\ndone\nend", page()...)
	takes(t, head+"code\nx: li r1 x\nb al x\n\nword x\nend: word end\ndone\nend", page(program(t, "x: li r1 x\nb al x\n\nword x\nend: word end\n", 0x400000)...)...)
	// What a block begins at: behind the words so far, those of blocks too. Its labels are its own.
	takes(t, head+"word 1 2\ncode\nword x\nx:\ndone\nfill 3 9\ncode\nx: word x\n done # x\ncode\nx: word x\n\tdone\nend",
		page(1, 2, 0x40000c, 9, 9, 9, 0x400018, 0x40001c)...)
	// What would be a line elsewhere is a program's here, and the other way round.
	takes(t, head+"code\nword 7\nend:\nzero 2\ndone\nend", page(7, 0, 0)...)
	takes(t, head+"code\ndone: word done\nb al done\ndone\nend", page(program(t, "done: word done\nb al done", 0x400000)...)...)
	refuses(t, head+"code\nend\ndone\nend", api.ErrWord, 4)
	refuses(t, head+"code\nend\n", api.ErrImage, 4)
	refuses(t, head+"code\ncode\ndone\nend", api.ErrWord, 4)
	refuses(t, head+"code\nfill 1 1\ndone\nend", api.ErrWord, 4)
	refuses(t, head+"code\nword 1 2\ndone\nend", api.ErrMore, 4)
	refuses(t, head+"code\nspare\ndone\nend", api.ErrWord, 4)
	// Lines that are done, and lines that aren't.
	for _, s := range []string{"done", " done", "\tdone \t", "done #", "done # \"", "done\t#x"} {
		takes(t, head+"code\n"+s+"\nend", page()...)
	}
	for s, e := range map[string]api.Errno{"done x": api.ErrWord, "\"done\"": api.ErrWord, "done \"": api.ErrQuote, "\"done": api.ErrQuote, "Done": api.ErrWord, "done#": api.ErrWord, "done\r": api.ErrWord, "done done": api.ErrWord, "x: done": api.ErrWord} {
		refuses(t, head+"code\nsvc 0\n"+s+"\nsvc 0\ndone\nend", e, 5)
		refuses(t, head+"code\n"+s, api.ErrImage, 4)
	}
	takes(t, head+"code\n#done\ndone:\n# x\ndone\nend", page()...)
}

// A block's faults: asm's, at their lines in the text; they are told at its line done, behind all that stands ahead of it.
func TestFaultsOfCode(t *testing.T) {
	const head = "table 1\n\n# x\ndata 0x400000 rx\nword 1\n"
	for s, want := range map[string]image.Fault{
		"mvo r1":                      {Err: api.ErrWord, Line: 1},
		"svc 0\n\nmov r1":             {Err: api.ErrMore, Line: 3},
		"mov r1 r15":                  {Err: api.ErrOperand, Line: 1},
		"a:\nb: a:":                   {Err: api.ErrTwice, Line: 2},
		"b al x\nx: svc 0\nword y":    {Err: api.ErrLabel, Line: 3},
		"zero 2048\n\n\nsvc 0":        {Err: api.ErrBig, Line: 4},
		"# x\n\"":                     {Err: api.ErrQuote, Line: 2},
		"word y\nmvo":                 {Err: api.ErrWord, Line: 2},
		"done:\n\"done\"\ndone: done": {Err: api.ErrWord, Line: 2},
	} {
		refuses(t, head+"code\n"+s+"\ndone\nend", want.Err, 6+want.Line)
		refuses(t, head+"code\nsvc 0\ndone\n\ncode\n"+s+"\ndone\nend\nx", want.Err, 10+want.Line)
		refuses(t, head+"x\ncode\n"+s+"\ndone\nend", api.ErrImage, 6)
		refuses(t, head+"code\n"+s, api.ErrImage, 6+strings.Count(s, "\n")+1)
		refuses(t, head+"code\n"+s+"\nend\n\n", api.ErrImage, 6+strings.Count(s, "\n")+3)
	}
}

func TestTextsThatEndTooSoon(t *testing.T) {
	for _, s := range []string{"data 0 r", "data 0 r\nword 1", "data 0 r\n\n", "data 0 r\ncode", "data 0 r\ncode\nsvc 0", "data 0 r\ncode\ndone", "data 0 r\ncode\n\n\n#", "data 0 r\ncode\nend", "data 0 r\n# end"} {
		lines := 1 + len(strings.Split(s, "\n"))
		refuses(t, "table 0\n"+s+"\n", api.ErrImage, lines)
		refuses(t, "table 0\n"+s+"\n\n", api.ErrImage, lines+1)
		if !strings.HasSuffix(s, "\n") {
			refuses(t, "table 0\n"+s, api.ErrImage, lines)
		}
	}
}

// The parts so far are looked at as each line is read: of a data page at its first line.
func TestLinesAtWhichImagesEnd(t *testing.T) {
	refuses(t, "data 0 r\nx\n", api.ErrImage, 1)
	refuses(t, "data 0 r\n\"\n", api.ErrImage, 1)
	refuses(t, "data 0 r\ncode\nmvo\ndone\nend\n", api.ErrImage, 1)
	refuses(t, "table 0\ndata 0 r\nend\ndata 0 rw\nword x\nend", api.ErrImage, 4)
	refuses(t, "table 0\ndata 0 r\nend\nshare 0 rw\nx", api.ErrImage, 4)
	refuses(t, "table 0\nshare 0 r\n\ndata 0 rw\ncode\n", api.ErrImage, 4)
	refuses(t, "table 0\nspare\ntable 1\ntable 0x0", api.ErrImage, 4)
	refuses(t, strings.Repeat("spare\n", 63)+"x", api.ErrImage, 63)
	refuses(t, "table 0\n"+strings.Repeat("thread 1\n", 61)+"data 0 r\nx", api.ErrImage, 63)
	refuses(t, strings.Repeat("spare\n", 61)+"table 0\n"+strings.Repeat("\n", 7)+"table 0\n", api.ErrImage, 70)
	refuses(t, strings.Repeat("spare\n", 61)+"table 0\n"+sharesOf(63)+"share 0x100000 r", api.ErrImage, 126)
	if i, f := reads(t, strings.Repeat("spare\n", 61)+"table 0\n"+sharesOf(63)); f != (image.Fault{}) || len(i.Parts) != 125 {
		t.Errorf("P23.2: as many parts as there may be: %d, %+v", len(i.Parts), f)
	}
}

// sharesOf: lines of shares.
func sharesOf(n int) string {
	var s strings.Builder
	for k := range n {
		fmt.Fprintf(&s, "share 0x%x000 rw\n", k)
	}
	return s.String()
}

func TestLongTexts(t *testing.T) {
	refuses(t, strings.Repeat("#", 65537), api.ErrLong, 0)
	refuses(t, strings.Repeat("\n", 65537), api.ErrLong, 0)
	refuses(t, "x\n"+strings.Repeat("\"", 65536), api.ErrLong, 0)
	takes(t, strings.Repeat("#", 65536))
	takes(t, strings.Repeat("\n", 65536))
	takes(t, "spare\n"+strings.Repeat(" ", 65530), spare())
	refuses(t, strings.Repeat("\n", 65535)+"x", api.ErrImage, 65536)
	block := "table 0\ndata 0 r\ncode\n" + strings.Repeat("\n", 65536-len("table 0\ndata 0 r\ncode\ndone\nend"))
	takes(t, block+"done\nend", table(0), data(0, "r"))
	refuses(t, "table 0\ndata 0 r\ncode\n"+strings.Repeat("\n", 65000), api.ErrImage, 65003)
	refuses(t, "table 0\ndata 0 r\nword"+strings.Repeat(" 1", 32000), api.ErrImage, 3)
	refuses(t, "table 0\ndata 0 r\n"+strings.Repeat("code\ndone\n", 6000), api.ErrImage, 12002)
}

// Every byte, alone and in the places of a text.
func TestEachByteOfTexts(t *testing.T) {
	for c := range 256 {
		b := string([]byte{byte(c)})
		for _, s := range []string{b, "spare" + b, b + "spare", "table " + b, "table 0\n" + b + "share 0 r", "table 0\ndata 0 r" + b + "\nend", "table 0\ndata 0 r\nend" + b, "table 0\ndata 0 r\nword 1" + b + "2\nend", "table 0\ndata 0 r\ncode\ndone" + b + "\ndone\nend", "table 0\ndata 0 r\ncode\n" + b + "\ndone\nend", "spare" + b + "spare"} {
			reads(t, s)
		}
	}
}

// Texts by chance: of lines that are right mostly, and of such texts with one byte that is another one.
func TestWildTexts(t *testing.T) {
	const bytes = "\n \t#\"0x:1rwe\xff"
	r := rand.New(rand.NewSource(232))
	faults := map[api.Errno]int{}
	for range 30000 {
		s := wildText(r)
		if r.Intn(3) == 0 && len(s) > 0 {
			b := []byte(s)
			b[r.Intn(len(b))] = bytes[r.Intn(len(bytes))]
			s = string(b)
		}
		_, f := reads(t, s)
		faults[f.Err]++
	}
	for _, e := range []api.Errno{api.OK, api.ErrImage, api.ErrQuote, api.ErrWord, api.ErrMore, api.ErrOperand, api.ErrLabel} {
		if faults[e] < 30 {
			t.Errorf("P23.2: %d came %d times alone", e, faults[e])
		}
	}
}

func wildText(r *rand.Rand) string {
	pick := func(of ...string) string { return of[r.Intn(len(of))] }
	lines := []string{"table 0", "table 1"}[:r.Intn(3)]
	for range r.Intn(8) {
		switch r.Intn(8) {
		case 0:
			lines = append(lines, pick("table 0", "table 1", "table 2", "table 255"))
		case 1:
			lines = append(lines, pick("share 0x1000 r", "share 4096 rw", "share 0x2000 rw", "share 0x400000 r", "share 0x3000 r"))
		case 2:
			lines = append(lines, pick("spare", "thread 7", "thread 0x1000", "spare # x", "", "#", " ", "x", "end", "\"x\"", "\""))
		default:
			lines = append(lines, "data "+pick("0", "0x1000", "0x2000", "0x3000", "0x4000", "0x400000", "0x401000")+" "+pick("r", "rw", "rx", "rwx"))
			lines = append(lines, wildPage(r, pick)...)
		}
	}
	return strings.Join(lines, "\n") + pick("", "\n", "\n\n")
}

func wildPage(r *rand.Rand, pick func(...string) string) (lines []string) {
	for range r.Intn(4) {
		switch r.Intn(4) {
		case 0:
			lines = append(lines, pick("word 1", "word 1 2 3", "word 0xff 0xff", "word", "\tword 7 # 8"))
		case 1:
			lines = append(lines, pick("fill 3 1", "fill 500 2", "fill 0x10 3", "fill 0 0", "fill 1024 1", ""))
		default:
			lines = append(lines, "code")
			for range r.Intn(4) {
				lines = append(lines, pick("svc 0", "x: word x", "b al x", "y:", "zero 3", "li r1 x", "", "# x", "mov r1", "mvo", "word r", "\"", " addi r1 r1 -1"))
			}
			lines = append(lines, pick("done", "done", "done", " done # x", "don"))
		}
	}
	return append(lines, pick("end", "end", "end", "\tend #", ""))
}
