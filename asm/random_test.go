package asm_test

import (
	"math/rand"
	"regexp"
	"slices"
	"strconv"
	"strings"
	"testing"

	"warden/api"
	"warden/asm"
	"warden/isa"
	"warden/text"
)

// The operands' forms as patterns; what a pattern takes may still be beyond its limits.
var (
	nameForm     = regexp.MustCompile(`^[a-z][a-z0-9_]{0,23}$`)
	registerForm = regexp.MustCompile(`^r([0-9]|1[0-4])$`)
	numberForm   = regexp.MustCompile(`^(0|[1-9][0-9]{0,10}|0x[0-9a-f]{1,8})$`)
	signedForm   = regexp.MustCompile(`^(0|-?[1-9][0-9]{0,10})$`)
	condForm     = regexp.MustCompile(`^(al|eq|ne|lt|ge|lo|hs)$`)
)

// use: an operand that is a label.
type use struct {
	name      string
	line, col int
	place     int
	word      string // the statement's name
	register  int64
}

// byWords: the chapter's P6.1 and P6.2 once more, over the same words of a line.
type byWords struct {
	words  []uint32
	labels []asm.Label
	uses   []use
}

func (p *byWords) place(name string) int {
	for _, l := range p.labels {
		if l.Name == name {
			return l.Place
		}
	}
	return -1
}

// number: what an operand that is no label tells.
func number(letter byte, w text.Word) (n int64, ok bool) {
	s := w.Text
	in := func(form *regexp.Regexp, digits string, least, most int64) (int64, bool) {
		v, err := strconv.ParseInt(digits, 0, 64)
		return v, form.MatchString(s) && err == nil && least <= v && v <= most
	}
	switch letter {
	case 'a', 'b', 'c':
		n, ok = in(registerForm, strings.TrimPrefix(s, "r"), 0, 14)
	case 'k':
		n, ok = int64(slices.Index([]string{"al", "eq", "ne", "lt", "ge", "lo", "hs"}, s)), condForm.MatchString(s)
	case 'u':
		n, ok = in(numberForm, s, 0, 65535)
	case 's', 'o':
		n, ok = in(signedForm, s, -32768, 32767)
	case 'N':
		n, ok = in(numberForm, s, 0, asm.MaxCode)
	case 'X':
		if n, ok = in(numberForm, s, 0, 1<<32-1); !ok {
			n, ok = in(signedForm, s, -1<<31, -1)
		}
	}
	return n, ok && !w.Quoted
}

// laid: the words of a statement with these operands.
func laid(t *testing.T, name string, n []int64) []uint32 {
	switch name {
	case "word":
		return []uint32{uint32(n[0])}
	case "li":
		x := uint32(n[1])
		return []uint32{enc(t, isa.Instr{Op: isa.Movi, A: int(n[0]), Imm: int32(x % 65536)}), enc(t, isa.Instr{Op: isa.Movt, A: int(n[0]), Imm: int32(x / 65536)})}
	case "zero":
		return make([]uint32, n[0])
	}
	op, _ := isa.Named(name)
	w := uint32(op) << 26
	for at, letter := range isa.Shape(op) {
		low := map[rune]int{'a': 22, 'k': 22, 'b': 18, 'c': 14}[letter]
		w |= uint32(n[at]) & 0xffff << low
	}
	return []uint32{w}
}

// statement: the faults of one, in their order, and its words.
func (p *byWords) statement(t *testing.T, line int, words []text.Word) asm.Fault {
	name := words[0]
	at := func(e api.Errno, w text.Word) asm.Fault { return asm.Fault{Err: e, Line: line, Col: w.Col} }
	shape, size := map[string]string{"word": "X", "li": "aX", "zero": "N"}[name.Text], map[string]int{"li": 2, "zero": 0}[name.Text]
	if op, e := isa.Named(name.Text); e == api.OK {
		shape = isa.Shape(op)
	}
	if name.Text != "li" && name.Text != "zero" {
		size = 1
	}
	if shape == "" || name.Quoted {
		return at(api.ErrWord, name)
	}
	if len(p.words)+size > asm.MaxCode {
		return at(api.ErrBig, name)
	}
	var n []int64
	for i := range len(shape) {
		if 1+i >= len(words) {
			return at(api.ErrMore, name)
		}
		w := words[1+i]
		if strings.IndexByte("oX", shape[i]) >= 0 && nameForm.MatchString(w.Text) && !w.Quoted {
			u := use{name: w.Text, line: line, col: w.Col, place: len(p.words), word: name.Text}
			if i > 0 {
				u.register = n[0]
			}
			p.uses, n = append(p.uses, u), append(n, 0)
			continue
		}
		v, ok := number(shape[i], w)
		if !ok {
			return at(api.ErrOperand, w)
		}
		n = append(n, v)
	}
	if len(words) > 1+len(shape) {
		return at(api.ErrMore, words[1+len(shape)])
	}
	if name.Text == "zero" && len(p.words)+int(n[0]) > asm.MaxCode {
		return at(api.ErrBig, name)
	}
	p.words = append(p.words, laid(t, name.Text, n)...)
	return asm.Fault{}
}

// line: one line's faults, from the left.
func (p *byWords) line(t *testing.T, number int, s string) asm.Fault {
	words, col, e := text.Words(s)
	if e != api.OK {
		return asm.Fault{Err: e, Line: number, Col: col}
	}
	for i, w := range words {
		if w.Quoted || w.Text[len(w.Text)-1] != ':' {
			return p.statement(t, number, words[i:])
		}
		name := w.Text[:len(w.Text)-1]
		if !nameForm.MatchString(name) {
			return asm.Fault{Err: api.ErrWord, Line: number, Col: w.Col}
		}
		if p.place(name) >= 0 {
			return asm.Fault{Err: api.ErrTwice, Line: number, Col: w.Col}
		}
		p.labels = append(p.labels, asm.Label{Name: name, Place: len(p.words)})
	}
	return asm.Fault{}
}

func assembled(t *testing.T, source string, base uint32) ([]uint32, []asm.Label, asm.Fault) {
	p := &byWords{}
	for i, s := range strings.Split(strings.TrimSuffix(source, "\n"), "\n") {
		if f := p.line(t, i+1, s); f != (asm.Fault{}) {
			return nil, nil, f
		}
	}
	for _, u := range p.uses {
		place := p.place(u.name)
		if place < 0 {
			return nil, nil, asm.Fault{Err: api.ErrLabel, Line: u.line, Col: u.col}
		}
		n := []int64{u.register, int64(place - u.place - 1)}
		if u.word == "li" || u.word == "word" {
			n[1] = int64(base) + 4*int64(place)
		}
		if u.word == "bl" || u.word == "word" {
			n = n[1:]
		}
		copy(p.words[u.place:], laid(t, u.word, n))
	}
	return p.words, p.labels, asm.Fault{}
}

// randomOperand: for that letter, mostly a right one.
func randomOperand(r *rand.Rand, letter byte) string {
	some := func(words ...string) string { return words[r.Intn(len(words))] }
	if r.Intn(60) == 0 {
		return some("r15", "r01", "-1", "x", "a", "65536", "-32769", "0x1", "\"r1\"", "\"", "a:", "al", "zero", "4294967296", "01", "\xff", "r0x1")
	}
	label := some("a", "b", "c", "d", "e")
	switch letter {
	case 'a', 'b', 'c':
		return "r" + strconv.Itoa(r.Intn(15))
	case 'k':
		return some("al", "eq", "ne", "lt", "ge", "lo", "hs")
	case 'u':
		return some(strconv.Itoa(r.Intn(65536)), "0x"+strconv.FormatInt(r.Int63n(65536), 16), "0", "65535")
	case 's':
		return some(strconv.Itoa(r.Intn(65536)-32768), "-32768", "32767")
	case 'o':
		return some(strconv.Itoa(r.Intn(65536)-32768), label, label, label)
	case 'N':
		return some("0", "1", "2", "5", "2040", "0x7ff")
	}
	return some(strconv.Itoa(r.Intn(1<<32)), text.Hexed(r.Uint32()), strconv.Itoa(-r.Intn(1<<31)-1), label, label)
}

// randomText: some lines, with faults now and then.
func randomText(r *rand.Rand) string {
	var s strings.Builder
	gap := func() string { return []string{" ", " ", " ", "\t", "  "}[r.Intn(5)] }
	labels := []string{"a", "b", "c", "d", "e"}
	for range 1 + r.Intn(12) {
		for len(labels) > 0 && r.Intn(2) == 0 {
			i := r.Intn(len(labels))
			s.WriteString(labels[i] + ":" + gap())
			if r.Intn(40) > 0 {
				labels = slices.Delete(labels, i, i+1)
			}
		}
		if r.Intn(6) > 0 {
			name, shape := "", ""
			switch r.Intn(8) {
			case 0:
				name, shape = "word", "X"
			case 1:
				name, shape = "li", "aX"
			case 2:
				name, shape = "zero", "N"
			default:
				op := isa.Op(1 + r.Intn(24))
				name, shape = isa.Name(op), isa.Shape(op)
			}
			if r.Intn(60) == 0 {
				name = []string{"mvo", "\"svc\"", "A:", "Mov", "r1"}[r.Intn(5)]
			}
			s.WriteString(name)
			if r.Intn(60) == 0 {
				shape = shape[1:] + []string{"", "a", "ab"}[r.Intn(3)]
			}
			for i := range len(shape) {
				s.WriteString(gap() + randomOperand(r, shape[i]))
			}
		}
		s.WriteString([]string{"\n", "\n", " # a: b\n", "\t\n"}[r.Intn(4)])
	}
	return s.String()
}

// Random texts against the chapter's words: those that are programs, and the first fault of those that aren't.
func TestRandomTexts(t *testing.T) {
	r := rand.New(rand.NewSource(6))
	met := map[api.Errno]int{}
	for range 40000 {
		source, base := randomText(r), r.Uint32()
		words, labels, fault := assembled(t, source, base)
		met[fault.Err]++
		if got, f := asm.Assemble(source, base); f != fault || !slices.Equal(got, words) {
			t.Fatalf("P6.1: Assemble(%q, %#x) = %x, %v, want %x, %v", source, base, got, f, words, fault)
		}
		if got, f := asm.Labels(source); f != fault || !slices.Equal(got, labels) {
			t.Fatalf("P6.2: Labels(%q) = %v, %v, want %v, %v", source, got, f, labels, fault)
		}
	}
	for _, e := range []api.Errno{api.OK, api.ErrQuote, api.ErrWord, api.ErrTwice, api.ErrBig, api.ErrMore, api.ErrOperand, api.ErrLabel} {
		if met[e] < 100 {
			t.Errorf("P6.1: of the texts only %d have the error %d", met[e], e)
		}
	}
}

// Pieces in any order, with bytes that no text should have.
func TestTextsOfAnyBytes(t *testing.T) {
	r := rand.New(rand.NewSource(66))
	pieces := []string{"svc", "word", "li", "zero", "b", "bl", "al", "r1", "r15", "a", "a:", ":", "0", "-1", "2048", "\"", "\\", "x", "#", " ", " ", "\t", "\n", "\n", "\r", "\x00", "\xff", "\u00e9"}
	for range 40000 {
		source := ""
		for range r.Intn(20) {
			source += pieces[r.Intn(len(pieces))]
		}
		base := r.Uint32()
		words, f := asm.Assemble(source, base)
		wantWords, _, want := assembled(t, source, base)
		if f != want || !slices.Equal(words, wantWords) {
			t.Fatalf("P6.1: Assemble(%q) = %x, %v, want %x, %v", source, words, f, wantWords, want)
		}
	}
}
