package view

import (
	"strconv"

	"warden/api"
)

// Same: are the two alike? Part: where they part first, in words; "" if they don't.
func Same(a, b View) bool { return Part(a, b) == "" }
func Part(a, b View) string {
	if a.Births != b.Births {
		return "births"
	}
	for r, v := range a.Registers {
		if v != b.Registers[r] {
			return "register " + strconv.Itoa(r)
		}
	}
	if part := partOpen(a.Insecure, b.Insecure); part != "" {
		return part
	}
	return partSeen(a.Pages, b.Pages)
}

// Alike: do the two let out the same?
func Alike(a, b Release) bool {
	return a.Code == b.Code && a.Value == b.Value && partOpen(a.Pages, b.Pages) == "" && partSeen(a.Metas, b.Metas) == ""
}

// partOpen: of lists of insecure pages. partSeen: of lists of secure ones.
func partOpen(a, b [][]uint32) string {
	if len(a) != len(b) {
		return "insecure"
	}
	for p, words := range a {
		if part := partWords(numbered("insecure", p), words, b[p]); part != "" {
			return part
		}
	}
	return ""
}
func partSeen(a, b []Seen) string {
	if len(a) != len(b) {
		return "pages"
	}
	for p, s := range a {
		if part := s.part(numbered("page", p), b[p]); part != "" {
			return part
		}
	}
	return ""
}

// part: of a page that is called so.
func (s Seen) part(name string, o Seen) string {
	switch {
	case s.Entry != o.Entry:
		return name + " entry"
	case s.Hidden != o.Hidden:
		return name + " hidden"
	}
	return partWords(name, s.Words, o.Words)
}

// partWords: of the words of a page that is called so.
func partWords(name string, a, b []uint32) string {
	if len(a) != len(b) {
		return name
	}
	for start := 0; start < len(a); start += api.PageWords {
		x, y := wholeOf(a[start:]), wholeOf(b[start:])
		if x != y {
			return name + numbered(" word", start+x.parts(y))
		}
	}
	return ""
}

// numbered: the name of a thing out of several.
func numbered(name string, n int) string { return name + " " + strconv.Itoa(n) }

// whole: a page's words as an array, so that comparing takes all of them at once.
type whole [api.PageWords]uint32

// wholeOf: as many of the words as a page has; where there are less, as many zeros more, in which two lists of one length don't part.
func wholeOf(words []uint32) whole {
	var w whole
	copy(w[:], words)
	return w
}

// parts: the first word at which two pages part that aren't the same.
func (w whole) parts(o whole) int {
	off := 0
	for w[off] == o[off] {
		off++
	}
	return off
}
