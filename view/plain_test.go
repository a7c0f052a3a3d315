package view_test

import (
	"fmt"
	"slices"

	"warden/api"
	"warden/monitor"
	"warden/pagedb"
	"warden/valid"
	"warden/view"
	"warden/walk"
)

// What the chapter's sentences say, reckoned out of the words of the database and of the memory, one by one.

// kept: an entry as its two words say.
type kept struct {
	words              [2]uint32
	kind, state, owner int
	entered            bool
}

const (
	free = iota
	spaceType
	threadType
	firstType
	secondType
	dataType
	spareType
)

const stoppedState = 3

func entries(d *pagedb.DB) []kept {
	var all []kept
	for pair := range slices.Chunk(d.Words()[1:], 2) {
		w := pair[0]
		all = append(all, kept{[2]uint32{w, pair[1]}, int(w & 7), int(w >> 4 & 3), int(w >> 16 & 63), w>>8&1 == 1})
	}
	return all
}

func peek(d *pagedb.DB, page, off int) uint32 { return d.Memory().Peek(secure(page), off) }

// plainSpace: the page of the space of a birth; -1, if it is not there.
func plainSpace(d *pagedb.DB, birth int) int {
	for page, k := range entries(d) {
		if k.kind == spaceType && birth >= 0 && uint64(birth) == uint64(peek(d, page, 1)) {
			return page
		}
	}
	return -1
}

// plainEnclave: its pages, rising.
func plainEnclave(d *pagedb.DB, birth int) []int {
	s := plainSpace(d, birth)
	if s < 0 {
		return nil
	}
	var all []int
	for page, k := range entries(d) {
		if page == s || k.kind != free && k.owner == s {
			all = append(all, page)
		}
	}
	return all
}

func content(d *pagedb.DB, f api.Frame) []uint32 {
	all := make([]uint32, 1024)
	for off := range all {
		all[off] = d.Memory().Peek(f, off)
	}
	return all
}

func plainSeen(d *pagedb.DB, birth, page int) view.Seen {
	k := entries(d)[page]
	own := slices.Contains(plainEnclave(d, birth), page)
	if own && (k.kind == dataType || k.kind == threadType) {
		return view.Seen{Entry: k.words, Hidden: true}
	}
	s := view.Seen{Entry: k.words, Words: content(d, secure(page))}
	if page == plainSpace(d, birth) {
		s.Words[2] = 0
	}
	return s
}

func plainOf(m *monitor.Monitor, birth int) view.View {
	d := m.DB()
	v := view.View{Births: int(d.Words()[0]), Registers: m.Registers()}
	for page := range d.Memory().Insecure() {
		v.Insecure = append(v.Insecure, content(d, insecure(page)))
	}
	for page := range d.Memory().Secure() {
		v.Pages = append(v.Pages, plainSeen(d, birth, page))
	}
	return v
}

// plainShared: the insecure pages that a space may write, by its tables' words.
func plainShared(d *pagedb.DB, space int) []int {
	all := entries(d)
	is := func(page, kind int) bool {
		return page >= 0 && page < len(all) && all[page].kind == kind && all[page].owner == space
	}
	first := int(peek(d, space, 0))
	if !is(first, firstType) {
		return nil
	}
	var shared []int
	for i := range 256 {
		second, e := walk.ParseFirst(peek(d, first, i))
		if e != api.OK || !is(second, secondType) {
			continue
		}
		for j := range 1024 {
			to, e := walk.ParseSecond(peek(d, second, j))
			if e == api.OK && !to.Frame.Secure && to.Write && to.Frame.Page < d.Memory().Insecure() {
				shared = append(shared, to.Frame.Page)
			}
		}
	}
	slices.Sort(shared)
	return slices.Compact(shared)
}

func plainReleased(m *monitor.Monitor, birth int, code api.Code, value uint32) (view.Release, api.Errno) {
	d := m.DB()
	s := plainSpace(d, birth)
	if s < 0 {
		return view.Release{}, api.ErrNone
	}
	r := view.Release{Code: code, Value: value}
	stopped := entries(d)[s].state == stoppedState
	for _, page := range plainEnclave(d, birth) {
		seen := plainSeen(d, birth, page)
		if stopped {
			seen.Words = nil
		}
		r.Metas = append(r.Metas, seen)
	}
	if stopped {
		return r, api.OK
	}
	for _, page := range plainShared(d, s) {
		r.Pages = append(r.Pages, content(d, insecure(page)))
	}
	return r, api.OK
}

// draws: those of a generator, as they come.
func draws(seed uint32) func() uint32 {
	x := uint64(max(seed, 1))
	const all = 1<<32 - 1
	return func() uint32 {
		x = (x ^ x<<13) & all
		x = x ^ x>>17
		x = (x ^ x<<5) & all
		return uint32(x)
	}
}

// laid: a word that becomes another one.
type laid struct{ page, off int }

// plainPlant: the words that become others, and what.
func plainPlant(d *pagedb.DB, birth int, seed uint32) map[laid]uint32 {
	all, draw := map[laid]uint32{}, draws(seed)
	for _, page := range plainEnclave(d, birth) {
		k := entries(d)[page]
		switch {
		case k.kind == dataType:
			for off := range 1024 {
				all[laid{page, off}] = draw()
			}
		case k.kind == threadType && k.entered:
			for off := range 16 {
				all[laid{page, 1 + off}] = draw()
			}
			all[laid{page, 17}] = []uint32{0, 1, 2, 4, 6}[draw()%5]
		case k.kind == spaceType:
			all[laid{page, 2}] = draw() % 4097
		}
	}
	return all
}

// plainStreams: with other draws of a birth.
func plainStreams(of [][]uint32, birth int, draws []uint32) [][]uint32 {
	all := make([][]uint32, max(len(of), birth+1))
	copy(all, of)
	all[birth] = draws
	return all
}

func plainRefusal(m *monitor.Monitor, birth int, draws []uint32) api.Errno {
	clause, _ := valid.Broken(m.DB())
	switch {
	case plainSpace(m.DB(), birth) < 0:
		return api.ErrNone
	case len(draws) > 4096:
		return api.ErrConfig
	case clause != 0:
		return api.ErrBroken
	}
	return api.OK
}

// plainParts: all at which two views part, in the chapter's order.
func plainParts(a, b view.View) []string {
	var all []string
	if a.Births != b.Births {
		all = append(all, "births")
	}
	for r := range 15 {
		if a.Registers[r] != b.Registers[r] {
			all = append(all, fmt.Sprintf("register %d", r))
		}
	}
	all = append(all, plainOpenParts(a.Insecure, b.Insecure)...)
	return append(all, plainSeenParts(a.Pages, b.Pages)...)
}

func plainOpenParts(a, b [][]uint32) (all []string) {
	if len(a) != len(b) {
		return []string{"insecure"}
	}
	for p := range a {
		all = append(all, plainWordsParts(fmt.Sprintf("insecure %d", p), a[p], b[p])...)
	}
	return all
}

func plainSeenParts(a, b []view.Seen) (all []string) {
	if len(a) != len(b) {
		return []string{"pages"}
	}
	for p := range a {
		name := fmt.Sprintf("page %d", p)
		if a[p].Entry != b[p].Entry {
			all = append(all, name+" entry")
		}
		if a[p].Hidden != b[p].Hidden {
			all = append(all, name+" hidden")
		}
		all = append(all, plainWordsParts(name, a[p].Words, b[p].Words)...)
	}
	return all
}

func plainWordsParts(name string, a, b []uint32) (all []string) {
	if len(a) != len(b) {
		return []string{name}
	}
	for off := range a {
		if a[off] != b[off] {
			all = append(all, fmt.Sprintf("%s word %d", name, off))
		}
	}
	return all
}

func plainPart(a, b view.View) string { return append(plainParts(a, b), "")[0] }

func plainAlike(a, b view.Release) bool {
	return a.Code == b.Code && a.Value == b.Value && len(plainOpenParts(a.Pages, b.Pages))+len(plainSeenParts(a.Metas, b.Metas)) == 0
}
