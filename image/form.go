package image

import (
	"strings"

	"warden/api"
	"warden/text"
)

// The words with which lines begin.
const (
	tableWord  = "table"
	dataWord   = "data"
	shareWord  = "share"
	threadWord = "thread"
	spareWord  = "spare"

	// Those of the lines of a data page.
	wordWord = "word"
	fillWord = "fill"
	codeWord = "code"
	doneWord = "done"
	endWord  = "end"
)

// What may be done with a mapped page.
const (
	toRead        = "r"
	toWrite       = "rw"
	toExec        = "rx"
	toWriteOrExec = "rwx"
)

const (
	leastFill = 4 // alike words that stand in a line of their own
	mostWords = 8 // of a line of words
)

// formOf: the text of these pieces. Gives up, if it is too long for one.
func formOf(pieces []piece) string {
	var form strings.Builder
	for _, p := range pieces {
		p.put(&form)
	}
	insist(form.Len() <= api.MaxText, api.ErrLong)
	return form.String()
}

// putLine: the words with a blank between each two of them, and the line's end.
func putLine(form *strings.Builder, words ...string) {
	form.WriteString(strings.Join(words, " "))
	form.WriteByte('\n')
}

func (t table) put(form *strings.Builder) {
	putLine(form, tableWord, text.Tens(uint32(t)))
}
func (s share) put(form *strings.Builder) {
	putLine(form, shareWord, text.Hexed(s.VA), s.access())
}
func (t thread) put(form *strings.Builder) {
	putLine(form, threadWord, text.Hexed(uint32(t)))
}
func (spare) put(form *strings.Builder) {
	putLine(form, spareWord)
}
func (d data) put(form *strings.Builder) {
	putLine(form, dataWord, text.Hexed(d.VA), d.access())
	for rest := d.words; len(rest) > 0; {
		n := alike(rest)
		if n >= leastFill {
			putLine(form, fillWord, text.Tens(uint32(n)), text.Hexed(rest[0]))
		} else {
			n = aheadOfFill(rest)
			putWords(form, rest[:n])
		}
		rest = rest[n:]
	}
	putLine(form, endWord)
}

func putWords(form *strings.Builder, words []uint32) {
	line := []string{wordWord}
	for _, w := range words {
		line = append(line, text.Hexed(w))
	}
	putLine(form, line...)
}

// alike: how many words at the beginning are one and the same.
func alike(words []uint32) int {
	n := 0
	for n < len(words) && words[n] == words[0] {
		n++
	}
	return n
}

// aheadOfFill: how many words stand in one line of words, ahead of those that have a line of their own.
func aheadOfFill(words []uint32) int {
	n := 0
	for n < min(mostWords, len(words)) && alike(words[n:]) < leastFill {
		n++
	}
	return n
}

func (m mapped) access() string {
	switch {
	case m.Write && m.Exec:
		return toWriteOrExec
	case m.Exec:
		return toExec
	case m.Write:
		return toWrite
	}
	return toRead
}
