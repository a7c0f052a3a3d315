package image

import (
	"strings"

	"warden/api"
	"warden/measure"
	"warden/space"
)

// piece: a part that may be. Each kind is a type of its own, so that none has a field that its kind doesn't use.
type piece interface {
	// put: its lines behind a text.
	put(form *strings.Builder)
	// call: the one that builds it, on a page of its own: an insecure one for a share, a secure one for every other.
	call(l lent, page int) Step
}

// built: a piece that is a build operation: it is measured.
type built interface {
	piece
	operation() measure.Op
}

type (
	table uint32 // its index
	data  struct {
		mapped
		words []uint32
	}
	share  struct{ mapped }
	thread uint32 // its entry
	spare  struct{}
)

// mapped: what a piece that has an address says of it, and the word that a call is told of that.
type mapped struct {
	space.Mapping
	word uint32
}

// pieceOf: what a part says. Gives up, if it may not be.
func pieceOf(p Part) piece {
	insist(hasNoMore(p), api.ErrImage)
	switch p.Kind {
	case Table:
		insist(p.Index >= 0 && p.Index < api.L1Words, api.ErrImage)
		return table(p.Index)
	case Data:
		insist(len(p.Words) <= api.PageWords, api.ErrImage)
		return data{mappedBy(p), p.Words}
	case Share:
		return share{mappedBy(p)}
	case Thread:
		return thread(p.VA)
	case Spare:
		return spare{}
	}
	panic(refusal(api.ErrImage))
}

// hasNoMore: is each field that the part's kind doesn't use as good as not there?
func hasNoMore(p Part) bool {
	return (p.Kind == Table || p.Index == 0) &&
		(p.Kind == Data || p.Kind == Share || p.Kind == Thread || p.VA == 0) &&
		(p.Kind == Data || p.Kind == Share || !p.Write) &&
		(p.Kind == Data || !p.Exec && len(p.Words) == 0)
}

func mappedBy(p Part) mapped {
	m := space.Mapping{VA: p.VA, Write: p.Write, Exec: p.Exec}
	w, e := space.Word(m)
	insist(e == api.OK, api.ErrImage)
	return mapped{m, w}
}

// page: the words of the whole page, the caller's own.
func (d data) page() []uint32 {
	words := make([]uint32, api.PageWords)
	copy(words, d.words)
	return words
}

func (t table) operation() measure.Op {
	return measure.Op{Kind: measure.Table, Arg: uint32(t)}
}
func (d data) operation() measure.Op {
	return measure.Op{Kind: measure.Data, Arg: d.word, Words: d.page()}
}
func (s share) operation() measure.Op {
	return measure.Op{Kind: measure.Share, Arg: s.word}
}
func (t thread) operation() measure.Op {
	return measure.Op{Kind: measure.Thread, Arg: uint32(t)}
}

// sumOf: the measurement of a space that is built of these.
func sumOf(pieces []piece) [8]uint32 {
	var ops []measure.Op
	for _, p := range pieces {
		if b, ok := p.(built); ok {
			ops = append(ops, b.operation())
		}
	}
	sum, e := measure.Measure(ops)
	insist(e == api.OK, e)
	return sum
}
