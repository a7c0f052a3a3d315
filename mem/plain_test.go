package mem_test

import (
	"testing"

	"warden/api"
	"warden/mem"
)

// place: a word by its page's kind and number and its offset.
type place struct {
	secure    bool
	page, off int
}

// plain: the chapter's sentences over a map of what was laid last; a place that isn't in it holds 0.
type plain struct {
	secure, insecure int
	laid             map[place]uint32
	meter            int64
}

func newPlain(secure, insecure int) *plain {
	return &plain{secure: secure, insecure: insecure, laid: map[place]uint32{}}
}

func (p *plain) has(f api.Frame) bool {
	most := p.insecure - 1
	if f.Secure {
		most = p.secure - 1
	}
	return 0 <= f.Page && f.Page <= most
}

func (p *plain) fault(f api.Frame, off int) api.Errno {
	switch {
	case !p.has(f):
		return api.ErrPage
	case off < 0 || off > 1023:
		return api.ErrOffset
	}
	return api.OK
}

func (p *plain) word(f api.Frame, off int) uint32 { return p.laid[place{f.Secure, f.Page, off}] }

func (p *plain) put(f api.Frame, off int, v uint32) { p.laid[place{f.Secure, f.Page, off}] = v }

func (p *plain) page(f api.Frame) []uint32 {
	var words []uint32
	for off := range 1024 {
		words = append(words, p.word(f, off))
	}
	return words
}

func (p *plain) putAll(f api.Frame, words []uint32) {
	for off, v := range words {
		p.put(f, off, v)
	}
}

func (p *plain) clone() *plain {
	c := newPlain(p.secure, p.insecure)
	for k, v := range p.laid {
		c.laid[k] = v
	}
	c.meter = p.meter
	return c
}

func (p *plain) frames() []api.Frame {
	var all []api.Frame
	for i := range p.secure {
		all = append(all, sec(i))
	}
	for i := range p.insecure {
		all = append(all, ins(i))
	}
	return all
}

// holds: whether the memory tells what the plain one has: numbers of pages, meter, every word.
func (p *plain) holds(t *testing.T, promise string, m *mem.Memory) {
	t.Helper()
	if m.Secure() != p.secure || m.Insecure() != p.insecure {
		t.Fatalf("%s: %d secure and %d insecure pages, want %d and %d", promise, m.Secure(), m.Insecure(), p.secure, p.insecure)
	}
	if m.Meter() != p.meter {
		t.Fatalf("%s: the meter is %d, want %d", promise, m.Meter(), p.meter)
	}
	for _, f := range p.frames() {
		for off := range 1024 {
			if got, want := m.Peek(f, off), p.word(f, off); got != want {
				t.Fatalf("%s: word %d of %v is %#x, want %#x", promise, off, f, got, want)
			}
		}
	}
	if m.Meter() != p.meter {
		t.Fatalf("P7.3: Peek touches words: the meter is %d, want %d", m.Meter(), p.meter)
	}
}

func sec(page int) api.Frame { return api.Frame{Secure: true, Page: page} }

func ins(page int) api.Frame { return api.Frame{Page: page} }

func memory(t *testing.T, secure, insecure int) *mem.Memory {
	t.Helper()
	m, e := mem.New(secure, insecure)
	if e != api.OK || m == nil {
		t.Fatalf("P7.1: New(%d, %d): %d", secure, insecure, e)
	}
	return m
}

// marked: a memory whose words are all unlike each other and none 0, and its plain picture.
func marked(t *testing.T, secure, insecure int) (*mem.Memory, *plain) {
	t.Helper()
	m, p := memory(t, secure, insecure), newPlain(secure, insecure)
	for i, f := range p.frames() {
		for off := range 1024 {
			v := uint32(0x80000001 + i<<12 + off)
			if e := m.Write(f, off, v); e != api.OK {
				t.Fatalf("P7.2: Write(%v, %d): %d", f, off, e)
			}
			p.put(f, off, v)
			p.meter++
		}
	}
	return m, p
}
