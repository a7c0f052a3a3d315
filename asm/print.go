package asm

import (
	"strings"

	"warden/api"
	"warden/isa"
	"warden/text"
)

// Print: a text whose Assemble at that base gives these words: an instruction's line, or a word's for what is none; a label ahead of each place that a jump goes to. ErrBig above MaxCode.
func Print(words []uint32, base uint32) (string, api.Errno) {
	if len(words) > MaxCode {
		return "", api.ErrBig
	}
	names := targetNames(words)
	var lines strings.Builder
	for place, name := range names {
		if name != "" {
			lines.WriteString(name + ":\n")
		}
		if place < len(words) {
			lines.WriteString(lineWith(words[place], labelOf(words, place, names)) + "\n")
		}
	}
	return lines.String(), api.OK
}

// Line: one instruction's text, without labels (jumps as distances); a word's for what is none.
func Line(w uint32) string { return lineWith(w, "") }

// targetNames: for each place, the one behind the last word too, its label; "" where none of the words jumps to.
func targetNames(words []uint32) []string {
	met := make([]bool, len(words)+1)
	for place, w := range words {
		if target, ok := targetOf(w, place, len(words)); ok {
			met[target] = true
		}
	}
	names := make([]string, len(words)+1)
	count := uint32(0)
	for place := range names {
		if met[place] {
			names[place] = "l" + text.Tens(count)
			count++
		}
	}
	return names
}

// targetOf: where the word at that place jumps to, if it jumps and the place is none beyond last.
func targetOf(w uint32, place, last int) (target int, ok bool) {
	i, e := isa.Decode(w)
	if e != api.OK || i.Op != isa.B && i.Op != isa.Bl {
		return 0, false
	}
	target = place + 1 + int(i.Imm)
	return target, target >= 0 && target <= last
}

// labelOf: the label to which the word at that place jumps; "" if there is none.
func labelOf(words []uint32, place int, names []string) string {
	target, ok := targetOf(words[place], place, len(words))
	if !ok {
		return ""
	}
	return names[target]
}

// lineWith: Line of the word, but with the label, if it isn't empty, in place of a distance.
func lineWith(w uint32, label string) string {
	i, e := isa.Decode(w)
	if e != api.OK {
		return wordName + " " + text.Hexed(w)
	}
	line := isa.Name(i.Op)
	shape := isa.Shape(i.Op)
	for at := range len(shape) {
		line += " " + operandText(i, shape[at], label)
	}
	return line
}

// operandText: what an instruction has for that letter.
func operandText(i isa.Instr, letter byte, label string) string {
	switch letter {
	case 'a':
		return registerText(i.A)
	case 'b':
		return registerText(i.B)
	case 'c':
		return registerText(i.C)
	case 'k':
		return isa.CondName(i.Cond)
	case distanceLetter:
		if label != "" {
			return label
		}
	}
	return text.Minus(i.Imm)
}

func registerText(n int) string { return "r" + text.Tens(uint32(n)) }
