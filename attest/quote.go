package attest

import (
	"strings"

	"warden/api"
	"warden/word"
)

const (
	quoteWord       = "quote 1" // the 1 is the form's number
	measurementWord = "measurement"
	dataWord        = "data"
	tagWord         = "tag"

	eightDigits = 64 // of eight words in hex

	// Where the digits of a quote's text begin: behind a line's end, a word and a blank.
	measurementAt = len(quoteWord) + 1 + len(measurementWord) + 1
	dataAt        = measurementAt + eightDigits + 1 + len(dataWord) + 1
	tagAt         = dataAt + eightDigits + 1 + len(tagWord) + 1
	quoteBytes    = tagAt + eightDigits + 1
)

// Quote: what an enclave says of itself.
type Quote struct {
	Measurement, Data, Tag [8]uint32
}

// Format: four lines: quote 1, and measurement, data, tag with their words in hex. Parse: just what Format gives; ErrQuoted.
func Format(q Quote) string {
	return layLine(quoteWord) +
		layLine(measurementWord, word.HexAll(q.Measurement[:])) +
		layLine(dataWord, word.HexAll(q.Data[:])) +
		layLine(tagWord, word.HexAll(q.Tag[:]))
}
func Parse(s string) (Quote, api.Errno) {
	q, err := quoteOf(s)
	return q, numberOf(err)
}

// quoteOf: the words that stand at the places of a quote's digits, if they give the whole text again.
func quoteOf(s string) (Quote, error) {
	if len(s) != quoteBytes {
		return Quote{}, errQuoted
	}
	measurement, ok := eightAt(s, measurementAt)
	data, also := eightAt(s, dataAt)
	tag, too := eightAt(s, tagAt)
	q := Quote{Measurement: measurement, Data: data, Tag: tag}
	if !ok || !also || !too || Format(q) != s {
		return Quote{}, errQuoted
	}
	return q, nil
}

func eightAt(s string, at int) ([8]uint32, bool) { return eightOf(s[at : at+eightDigits]) }

// eightOf: the eight words whose hex the digits are; false, if they are none's.
func eightOf(digits string) ([8]uint32, bool) {
	words, e := word.ParseAll(digits)
	if e != api.OK || len(words) != 8 {
		return [8]uint32{}, false
	}
	return [8]uint32(words), true
}

// layLine: the words with a blank between each two of them, and the line's end.
func layLine(words ...string) string { return strings.Join(words, " ") + "\n" }
