package image

import (
	"errors"
	"slices"
	"strings"

	"warden/api"
	"warden/asm"
	"warden/text"
)

// reader: what has been read of a text.
type reader struct {
	lines  []string
	line   int // the one that is being read, from 1 on; 0 ahead of the first
	ground ground
	parts  []Part
}

// faultOf: why the reading gave up: at the line that the error knows of, else at the one that is being read.
func (r *reader) faultOf(err error) Fault {
	if err == nil {
		return Fault{}
	}
	var there atLine
	if errors.As(err, &there) {
		return Fault{Err: numberOf(err), Line: there.line}
	}
	return Fault{Err: numberOf(err), Line: r.line}
}

// readAll: the parts of a text. Gives up at its first fault.
func (r *reader) readAll(s string) []Part {
	lines, e := text.Lines(s)
	insist(e == api.OK, e)
	r.lines = lines
	for r.line < len(r.lines) {
		if words := r.nextWords(); len(words) > 0 {
			r.readPart(words)
		}
	}
	return r.parts
}

// nextLine: goes on to the next line. Gives up, if the text is over: where that may be, it is looked at ahead.
func (r *reader) nextLine() string {
	insist(r.line < len(r.lines), api.ErrImage)
	r.line++
	return r.lines[r.line-1]
}

// nextWords: those of the next line, none of which may be quoted.
func (r *reader) nextWords() []string {
	found, _, e := text.Words(r.nextLine())
	insist(e == api.OK, e)
	var words []string
	for _, w := range found {
		insist(!w.Quoted, api.ErrImage)
		words = append(words, w.Text)
	}
	return words
}

// readPart: the part that begins with a line of these words.
func (r *reader) readPart(words []string) {
	switch words[0] {
	case tableWord:
		insistCount(words, 2)
		r.add(Part{Kind: Table, Index: int(number(words[1]))}) // one beyond all stays so, whatever int makes of it
	case dataWord:
		insistCount(words, 3)
		write, exec := readAccess(words[2])
		r.add(Part{Kind: Data, VA: number(words[1]), Write: write, Exec: exec})
		page := &r.parts[len(r.parts)-1]
		page.Words = r.readPage(page.VA)
	case shareWord:
		insistCount(words, 3)
		write, exec := readAccess(words[2])
		r.add(Part{Kind: Share, VA: number(words[1]), Write: write, Exec: exec})
	case threadWord:
		insistCount(words, 2)
		r.add(Part{Kind: Thread, VA: number(words[1])})
	case spareWord:
		insistCount(words, 1)
		r.add(Part{Kind: Spare})
	default:
		panic(refusal(api.ErrImage))
	}
}

// add: a part, as far as its first line says it, if it may stand behind those that are there.
func (r *reader) add(p Part) {
	r.ground.add(pieceOf(p))
	r.parts = append(r.parts, p)
}

// readPage: the words of a data page at that address, up to its end.
func (r *reader) readPage(va uint32) []uint32 {
	var page []uint32
	for {
		words := r.nextWords()
		if len(words) == 0 {
			continue
		}
		switch words[0] {
		case wordWord:
			insist(len(words) > 1, api.ErrImage)
			for _, w := range words[1:] {
				page = append(page, number(w))
			}
		case fillWord:
			insistCount(words, 3)
			page = append(page, filled(number(words[1]), number(words[2]))...)
		case codeWord:
			insistCount(words, 1)
			page = append(page, r.readCode(va+4*uint32(len(page)))...)
		case endWord:
			insistCount(words, 1)
			return page
		default:
			panic(refusal(api.ErrImage))
		}
		insist(len(page) <= api.PageWords, api.ErrImage)
	}
}

// readCode: the words of a program that is to lie at base, up to the line that is done.
func (r *reader) readCode(base uint32) []uint32 {
	ahead := r.line
	var program strings.Builder
	for line := r.nextLine(); !isDone(line); line = r.nextLine() {
		program.WriteString(line)
		program.WriteByte('\n')
	}
	words, f := asm.Assemble(program.String(), base)
	if f.Line > 0 {
		panic(atLine{ahead + f.Line, refusal(f.Err)})
	}
	insist(f.Err == api.OK, f.Err)
	return words
}

// isDone: whatever else a line of a program is, is asm's to say.
func isDone(line string) bool {
	words, _, e := text.Words(line)
	return e == api.OK && len(words) == 1 && !words[0].Quoted && words[0].Text == doneWord
}

// filled: n times a word.
func filled(n, w uint32) []uint32 {
	insist(n >= 1 && n <= api.PageWords, api.ErrImage)
	return slices.Repeat([]uint32{w}, int(n))
}

func insistCount(words []string, n int) { insist(len(words) == n, api.ErrImage) }

func number(s string) uint32 {
	n, e := text.Number(s)
	insist(e == api.OK, api.ErrImage)
	return n
}

// readAccess: what may be done with a page. (That a share may not be executed is said of the part.)
func readAccess(s string) (write, exec bool) {
	switch s {
	case toRead:
		return false, false
	case toWrite:
		return true, false
	case toExec:
		return false, true
	case toWriteOrExec:
		return true, true
	}
	panic(refusal(api.ErrImage))
}
