package valid_test

import (
	"math"
	"slices"
	"testing"

	"warden/api"
	"warden/pagedb"
	"warden/valid"
)

// kept: a page as the chapter's sentences see it, its entry taken apart by sums out of the database's words.
type kept struct {
	kind, owner, refs, state int
	entered                  bool
	words                    [1024]uint32
}

const (
	free = iota
	space
	thread
	first
	second
	data
	spare
)

const (
	building = 1 + iota
	final
	stopped
)

// plain: a whole state, copied out, and the clauses in plain sums over it.
type plain struct {
	pages            []kept
	births, insecure int
}

func secure(page int) api.Frame { return api.Frame{Secure: true, Page: page} }

func reckon(d *pagedb.DB) *plain {
	told := d.Words()
	p := &plain{births: int(told[0]), insecure: d.Memory().Insecure()}
	for i := 1; i < len(told); i += 2 {
		w := int(told[i])
		k := kept{kind: w % 16, state: w / 16 % 16, entered: w/256%256 == 1, owner: w / 65536, refs: int(told[i+1])}
		for off := range k.words {
			k.words[off] = d.Memory().Peek(secure(len(p.pages)), off)
		}
		p.pages = append(p.pages, k)
	}
	return p
}

func zero(words []uint32) bool {
	return !slices.ContainsFunc(words, func(w uint32) bool { return w != 0 })
}

// spaceOf: the space of a page that is none, nil without one.
func (p *plain) spaceOf(k kept) *kept {
	if o := &p.pages[k.owner]; o.kind == space {
		return o
	}
	return nil
}

func (p *plain) count(so func(q int, k kept) bool) int {
	n := 0
	for q, k := range p.pages {
		if so(q, k) {
			n++
		}
	}
	return n
}

// is: of a number that a word says, be it a page or not.
func (p *plain) is(q, kind, owner int) bool {
	return q < len(p.pages) && p.pages[q].kind == kind && p.pages[q].owner == owner
}

// holds: a clause at a page.
func (p *plain) holds(clause, at int) bool {
	k := p.pages[at]
	alive := k.kind != free && k.kind != space && p.spaceOf(k) != nil && p.spaceOf(k).state != stopped
	switch clause {
	case 1:
		return k.kind != space || k.owner == at
	case 2:
		return k.kind != free || zero(k.words[:])
	case 3:
		return k.kind == free || k.kind == space || p.spaceOf(k) != nil
	case 4:
		return k.kind != space || k.refs == p.count(func(q int, o kept) bool { return q != at && o.kind != free && o.owner == at })
	case 5:
		return k.kind != space || p.birthAlone(at)
	case 6:
		return k.kind != space || spaceWords(k)
	case 7:
		firsts := p.count(func(q int, o kept) bool { return o.kind == first && o.owner == at })
		return k.kind != space || k.state == stopped || p.is(int(k.words[0]), first, at) && firsts == 1
	case 8:
		return k.kind != first || !alive || p.firstTable(k)
	case 9:
		return k.kind != second || !alive || p.secondTable(k)
	case 10:
		return k.kind != data || !alive || p.maps(at) == 1
	case 11:
		return k.kind != thread || p.threadWords(k)
	}
	return k.kind != spare || zero(k.words[:])
}

func (p *plain) birthAlone(at int) bool {
	same := p.count(func(q int, o kept) bool {
		return q < at && o.kind == space && o.words[1] == p.pages[at].words[1]
	})
	return int(p.pages[at].words[1]) < p.births && same == 0 && p.pages[at].words[2] <= 4096
}

// saved: the form of a digest's words, as chapter 2 tells it.
func saved(w []uint32) bool {
	n := uint64(w[8])*(1<<32) + uint64(w[9])
	begin := []uint32{0x6a09e667, 0xbb67ae85, 0x3c6ef372, 0xa54ff53a, 0x510e527f, 0x9b05688c, 0x1f83d9ab, 0x5be0cd19}
	return n <= 1<<55 && (n >= 16 || slices.Equal(w[:8], begin)) && zero(w[10+n%16:])
}

func spaceWords(k kept) bool {
	asInit := saved(k.words[11:37]) && zero(k.words[3:11])
	asFinal := zero(k.words[11:37])
	so := map[int]bool{building: asInit, final: asFinal, stopped: asInit || asFinal}
	return so[k.state] && zero(k.words[37:])
}

func (p *plain) firstTable(k kept) bool {
	for q := range p.pages {
		times := 0
		for _, w := range k.words[:256] {
			if w == uint32(q)*256+1 {
				times++
			}
		}
		if (times == 1) != p.is(q, second, k.owner) || times > 1 {
			return false
		}
	}
	for _, w := range k.words[:256] {
		if w != 0 && (w%256 != 1 || int(w/256) >= len(p.pages)) {
			return false
		}
	}
	return zero(k.words[256:])
}

// parted: a second-level descriptor's page and its lower part, which says what kind it is of; 0 for words that are none.
func parted(w uint32) (page, low int) {
	page, low = int(w/256), int(w%256)
	if page > 63 || !slices.Contains([]int{1, 3, 5, 7, 11, 15}, low) {
		return 0, 0
	}
	return page, low
}

func (p *plain) secondTable(k kept) bool {
	for _, w := range k.words {
		page, low := parted(w)
		isInsecure := (low == 1 || low == 5) && page < p.insecure
		isData := (low == 3 || low == 7 || low == 11 || low == 15) && p.is(page, data, k.owner)
		if w != 0 && !isInsecure && !isData {
			return false
		}
	}
	return true
}

func (p *plain) maps(at int) int {
	times := 0
	for _, k := range p.pages {
		for _, w := range k.words {
			page, low := parted(w)
			if k.kind == second && k.owner == p.pages[at].owner && page == at && low%4 == 3 {
				times++
			}
		}
	}
	return times
}

func (p *plain) threadWords(k kept) bool {
	if !zero(k.words[18:]) {
		return false
	}
	if !k.entered {
		return zero(k.words[1:18])
	}
	o := p.spaceOf(k)
	return slices.Contains([]uint32{0, 1, 2, 4, 6}, k.words[17]) && (o == nil || o.state != building)
}

// all: does a clause hold at all pages, and where not first?
func (p *plain) all(clause int) (bool, int) {
	for at := range p.pages {
		if !p.holds(clause, at) {
			return false, at
		}
	}
	return true, 0
}

func (p *plain) broken() (clause, page int) {
	for c := 1; c <= 12; c++ {
		if so, at := p.all(c); !so {
			return c, at
		}
	}
	return 0, 0
}

// noClauses: numbers that are none, among them such as are one again when their upper bits are cut off.
var noClauses = []int{math.MinInt, math.MinInt32, -1<<32 + 1, -256, -12, -2, -1, 0, 13, 14, 64, 255, 257, 1<<16 + 1, math.MaxInt32, 1 << 32, 1<<32 + 1, 1<<32 + 12, math.MaxInt - 1, math.MaxInt}

// agrees: all that is told of a state is what the plain sums tell, and asking leaves everything as it was.
func agrees(t *testing.T, what string, d *pagedb.DB) {
	t.Helper()
	p, meter, words, memory := reckon(d), d.Memory().Meter(), d.Words(), d.Memory().Clone()
	wantC, wantP := p.broken()
	if c, at := valid.Broken(d); c != wantC || at != wantP {
		t.Fatalf("P13.2: %s: Broken tells clause %d, page %d; want %d, %d", what, c, at, wantC, wantP)
	}
	for c := 1; c <= 12; c++ {
		if want, at := p.all(c); valid.Holds(d, c) != want {
			t.Fatalf("P13.1: %s: Holds(%d) = %t (page %d)", what, c, !want, at)
		}
	}
	for _, c := range noClauses {
		if valid.Holds(d, c) {
			t.Fatalf("P13.1: %s: Holds(%d)", what, c)
		}
	}
	if d.Memory().Meter() != meter {
		t.Fatalf("P13.4: %s: %d words touched", what, d.Memory().Meter()-meter)
	}
	if !d.Memory().Same(memory) || !slices.Equal(d.Words(), words) {
		t.Fatalf("P13.4: %s: asking changes the state", what)
	}
}
