package text

import (
	"strings"

	"warden/api"
)

// Word: of a line: its text, whether it was quoted, and at which column it begins (from 1 on, in bytes).
type Word struct {
	Text   string
	Quoted bool
	Col    int
}

// Words: of a line: parted at blanks and tabs; behind a # that begins a word nothing counts; a word in quotes may hold blanks, and what Quote gives. ErrQuote (col says where).
func Words(line string) (words []Word, col int, e api.Errno) {
	defer func() {
		if fault := recover(); fault != nil {
			words, col, e = nil, placeOf(fault)+1, api.ErrQuote
		}
	}()
	return read(line), 0, api.OK
}

// read: the words of a line; gives up at a broken quote.
func read(line string) (words []Word) {
	at := 0
reading:
	for at < len(line) {
		w := Word{Col: at + 1}
		switch line[at] {
		case ' ', '\t':
			at++
			continue reading
		case '#':
			break reading
		case '"':
			w.Quoted = true
			w.Text, at = quotedWord(line, at)
		default:
			w.Text, at = plainWord(line, at)
		}
		words = append(words, w)
	}
	return words
}

// plainWord: the word without quotes that begins there, and the place behind it.
func plainWord(line string, at int) (word string, behind int) {
	behind = at
	for behind < len(line) && !gap(line[behind]) {
		behind++
	}
	return strings.Clone(line[at:behind]), behind
}

// quotedWord: the bytes of the quoted word that begins there, and the place behind it; gives up if it is broken, or not parted from what follows.
func quotedWord(line string, at int) (word string, behind int) {
	b, behind := unquoted(line, at)
	if behind < len(line) && !gap(line[behind]) {
		panic(broken(behind))
	}
	return string(b), behind
}

func gap(c byte) bool { return c == ' ' || c == '\t' }
