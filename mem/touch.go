package mem

import "warden/api"

// Read, Write: a word of a page. ErrPage, ErrOffset. Each touches one word.
func (m *Memory) Read(f api.Frame, off int) (uint32, api.Errno) {
	w, e := m.at(f, off)
	if e != api.OK {
		return 0, e
	}
	m.meter++
	return *w, api.OK
}
func (m *Memory) Write(f api.Frame, off int, v uint32) api.Errno {
	w, e := m.at(f, off)
	if e != api.OK {
		return e
	}
	m.meter++
	*w = v
	return api.OK
}

// Zero: all words of a page become 0 (1024 words are touched). ErrPage.
func (m *Memory) Zero(f api.Frame) api.Errno {
	p := m.find(f)
	if p == nil {
		return api.ErrPage
	}
	m.meter += api.PageWords
	clear(p[:])
	return api.OK
}

// Copy: the words of one page become those of another (2048 are touched). ErrPage.
func (m *Memory) Copy(to, from api.Frame) api.Errno {
	t, p := m.find(to), m.find(from)
	if t == nil || p == nil {
		return api.ErrPage
	}
	// A word is touched where it is read and where it is written, so twice.
	m.meter += 2 * api.PageWords
	copy(t[:], p[:])
	return api.OK
}

// Page: the words of a page; Lay: its words become these (1024 of them: else ErrLong). ErrPage. (1024 are touched.)
func (m *Memory) Page(f api.Frame) ([]uint32, api.Errno) {
	p := m.find(f)
	if p == nil {
		return nil, api.ErrPage
	}
	m.meter += api.PageWords
	words := make([]uint32, api.PageWords)
	copy(words, p[:])
	return words, api.OK
}
func (m *Memory) Lay(f api.Frame, words []uint32) api.Errno {
	p := m.find(f)
	if p == nil {
		return api.ErrPage
	}
	if len(words) != api.PageWords {
		return api.ErrLong
	}
	m.meter += api.PageWords
	copy(p[:], words)
	return api.OK
}

// Blank: is every word of the page 0? (1024 are touched, always.) ErrPage.
func (m *Memory) Blank(f api.Frame) (bool, api.Errno) {
	p := m.find(f)
	if p == nil {
		return false, api.ErrPage
	}
	// The meter may not tell where the first other word stands, so all are counted ahead of looking.
	m.meter += api.PageWords
	return *p == page{}, api.OK
}
