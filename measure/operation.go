package measure

import "warden/api"

// headWords: a kind's number and Arg, which every operation has.
const headWords = 2

// operation: one that may be. Each kind is a type of its own, so that none is of a kind that there isn't.
type operation interface {
	// put: what an operation has behind its kind's number, laid behind these words.
	put(words []uint32) []uint32
}

type (
	thread uint32 // its entry address
	table  uint32 // its first-level index
	share  uint32 // its mapping word
	data   struct {
		mapping uint32
		page    []uint32
	}
)

func (t thread) put(words []uint32) []uint32 { return append(words, uint32(t)) }
func (t table) put(words []uint32) []uint32  { return append(words, uint32(t)) }
func (s share) put(words []uint32) []uint32  { return append(words, uint32(s)) }
func (d data) put(words []uint32) []uint32   { return append(append(words, d.mapping), d.page...) }

// operationOf: the one that these fields say. ErrOps, if they say none.
func operationOf(o Op) (operation, api.Errno) {
	if len(o.Words) != pageOf(o.Kind) {
		return nil, api.ErrOps
	}
	switch o.Kind {
	case Thread:
		return thread(o.Arg), api.OK
	case Table:
		return table(o.Arg), api.OK
	case Data:
		return data{o.Arg, o.Words}, api.OK
	case Share:
		return share(o.Arg), api.OK
	}
	return nil, api.ErrOps
}

// pageOf: how many Words an operation of that kind has.
func pageOf(k Kind) int {
	if k == Data {
		return api.PageWords
	}
	return 0
}

func kindOf(o operation) Kind {
	switch o.(type) {
	case thread:
		return Thread
	case table:
		return Table
	case data:
		return Data
	case share:
		return Share
	}
	return Kinds
}

// lay: the words of an operation behind these.
func lay(words []uint32, o operation) []uint32 {
	return o.put(append(words, uint32(kindOf(o))))
}

// cut: the first operation of these words, and the words behind it. ErrOps, if they begin with none.
func cut(words []uint32) (Op, []uint32, api.Errno) {
	if len(words) < headWords {
		return Op{}, nil, api.ErrOps
	}
	o := Op{Kind: Kind(words[0]), Arg: words[1]}
	end := headWords + pageOf(o.Kind)
	if len(words) < end {
		return Op{}, nil, api.ErrOps
	}
	o.Words = append(o.Words, words[headWords:end]...)
	return o, words[end:], Check(o)
}
