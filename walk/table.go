package walk

import (
	"iter"

	"warden/api"
	"warden/mem"
)

// follow: what a table's word leads to, at either level. ErrPage, and no word touched, if there is no such table; ErrNone; ErrTable, also of a page that the memory hasn't.
func follow[T any](m *mem.Memory, table, n int, parse func(uint32) (T, api.Errno), frame func(T) api.Frame) (T, api.Errno) {
	var none T
	w, e := m.Read(secure(table), n)
	if e != api.OK {
		return none, e
	}
	t, e := parse(w)
	if e == api.OK && !m.Has(frame(t)) {
		return none, api.ErrTable
	}
	return t, e
}

// entries: what the first words of a table lead to, by their numbers; those that lead nowhere are left out.
func entries[T any](m *mem.Memory, table, words int, parse func(uint32) (T, api.Errno), frame func(T) api.Frame) iter.Seq2[int, T] {
	return func(yield func(int, T) bool) {
		for n := range words {
			t, e := follow(m, table, n, parse, frame)
			if e == api.OK && !yield(n, t) {
				return
			}
		}
	}
}

// mapped: the pages' first addresses at which something is mapped, rising, with their maps. A table that stands at two places is gone through at both.
func mapped(m *mem.Memory, l1 int) iter.Seq2[uint32, Map] {
	return func(yield func(uint32, Map) bool) {
		for i, l2 := range entries(m, l1, api.L1Words, ParseFirst, secure) {
			for j, to := range entries(m, l2, api.PageWords, ParseSecond, Map.frame) {
				va, _ := Join(i, j, 0)
				if !yield(va, to) {
					return
				}
			}
		}
	}
}

// secure: the frame of a table's page.
func secure(page int) api.Frame { return api.Frame{Secure: true, Page: page} }

// frame: the page that a map is of.
func (m Map) frame() api.Frame { return m.Frame }
