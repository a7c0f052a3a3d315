package asm

import (
	"math"
	"strings"

	"warden/api"
	"warden/text"
)

// program: what has been read of a text.
type program struct {
	base   uint32
	line   int // the line that is being read, from 1 on
	words  []uint32
	labels []Label
	places map[string]int // the labels' again, to be found by name
	later  []func() error // what waits until all places are known, in the text's order
}

// read: the program of a text; or none and the first fault.
func read(source string, base uint32) (*program, error) {
	lines, e := text.Lines(source)
	if e != api.OK {
		return nil, faultAt(e, 0, 0)
	}
	p := &program{base: base, places: map[string]int{}}
	for i, line := range lines {
		p.line = i + 1
		if err := p.layLine(line); err != nil {
			return nil, err
		}
	}
	for _, finish := range p.later {
		if err := finish(); err != nil {
			return nil, err
		}
	}
	return p, nil
}

// layLine: its label definitions, then its statement, if there is one.
func (p *program) layLine(line string) error {
	words, col, e := text.Words(line)
	if e != api.OK {
		return faultAt(e, p.line, col)
	}
	for len(words) > 0 && isDefinition(words[0]) {
		if err := p.define(words[0]); err != nil {
			return err
		}
		words = words[1:]
	}
	if len(words) == 0 {
		return nil
	}
	return p.layStatement(words[0], words[1:])
}

func isDefinition(w text.Word) bool {
	return !w.Quoted && strings.HasSuffix(w.Text, ":")
}

// define: the label stands for the place of what will be laid next.
func (p *program) define(w text.Word) error {
	name := strings.TrimSuffix(w.Text, ":")
	if text.Name(name) != api.OK {
		return faultAt(api.ErrWord, p.line, w.Col)
	}
	if _, twice := p.places[name]; twice {
		return faultAt(api.ErrTwice, p.line, w.Col)
	}
	p.places[name] = len(p.words)
	p.labels = append(p.labels, Label{Name: name, Place: len(p.words)})
	return nil
}

// layStatement: its words behind those that are there.
func (p *program) layStatement(name text.Word, rest []text.Word) error {
	k, known := kindOf(name.Text)
	if name.Quoted || !known {
		return faultAt(api.ErrWord, p.line, name.Col)
	}
	if !p.hasRoom(k.least) {
		return faultAt(api.ErrBig, p.line, name.Col)
	}
	operands, err := p.readOperands(k, name, rest)
	if err != nil {
		return err
	}
	words := k.words(operands)
	if !p.hasRoom(len(words)) { // of a zero only its operand tells how many it has
		return faultAt(api.ErrBig, p.line, name.Col)
	}
	place := len(p.words)
	p.words = append(p.words, words...)
	for at := range operands {
		if operands[at].label != "" {
			p.later = append(p.later, p.finish(k, operands, at, place))
		}
	}
	return nil
}

func (p *program) hasRoom(n int) bool { return len(p.words)+n <= MaxCode }

// readOperands: a word for each letter of the statement's shape, and none besides.
func (p *program) readOperands(k kind, name text.Word, rest []text.Word) ([]operand, error) {
	var operands []operand
	for at := range len(k.shape) {
		if at == len(rest) {
			return nil, faultAt(api.ErrMore, p.line, name.Col)
		}
		o, ok := readOperand(k.shape[at], rest[at])
		if !ok {
			return nil, faultAt(api.ErrOperand, p.line, rest[at].Col)
		}
		operands = append(operands, o)
	}
	if len(rest) > len(k.shape) {
		return nil, faultAt(api.ErrMore, p.line, rest[len(k.shape)].Col)
	}
	return operands, nil
}

// finish: what is to be done about a label among the operands of the statement at that place: when all places are known, it is laid once more with what the label stands for.
func (p *program) finish(k kind, operands []operand, at, place int) func() error {
	line := p.line
	return func() error {
		o := operands[at]
		target, defined := p.places[o.label]
		if !defined {
			return faultAt(api.ErrLabel, line, o.col)
		}
		value, e := p.meaning(k.shape[at], target, place)
		if e != api.OK {
			return faultAt(e, line, o.col)
		}
		operands[at].value = value
		copy(p.words[place:], k.words(operands))
		return nil
	}
}

// meaning: of a label at target, as an operand of that letter of the statement at place: a distance or an address, modulo 2^32.
func (p *program) meaning(letter byte, target, place int) (uint32, api.Errno) {
	if letter != distanceLetter {
		return p.base + 4*uint32(target), api.OK
	}
	distance := target - place - 1
	if distance < math.MinInt16 || distance > math.MaxInt16 {
		return 0, api.ErrFar
	}
	return uint32(distance), api.OK
}
