package image

import (
	"slices"

	"warden/api"
)

// lent: what the calls of a plan are told besides the page of a part.
type lent struct {
	space   int
	staging int
}

// planOf: the steps for these pieces. Gives up, if the pages aren't those that they need.
func planOf(pieces []piece, secure, shares []int, staging int) []Step {
	n := needOf(pieces)
	insistPages(secure, n.secure, api.MaxSecure)
	insistPages(shares, n.shares, api.MaxInsecure)
	insistPages([]int{staging}, 1, api.MaxInsecure)
	insist(!slices.Contains(shares, staging), api.ErrPages)

	l := lent{secure[0], staging}
	building := []Step{{Call: api.CallSpace, A: uint32(l.space), B: uint32(secure[1])}}
	var spares []Step // a spare page may come at any time: that it comes last is the plan's form
	left := secure[bornPages:]
	for _, p := range pieces {
		switch x := p.(type) {
		case data:
			building = append(building, Step{Lay: true, Page: staging, Words: x.page()}, p.call(l, takeFirst(&left)))
		case share:
			building = append(building, p.call(l, takeFirst(&shares)))
		case spare:
			spares = append(spares, p.call(l, takeFirst(&left)))
		default:
			building = append(building, p.call(l, takeFirst(&left)))
		}
	}
	building = append(building, Step{Call: api.CallFinal, A: uint32(l.space)})
	return append(building, spares...)
}

// insistPages: that there are so many, each another one that there may be.
func insistPages(pages []int, count, below int) {
	insist(len(pages) == count, api.ErrPages)
	for k, page := range pages {
		insist(page >= 0 && page < below && !slices.Contains(pages[:k], page), api.ErrPages)
	}
}

// takeFirst: the first of the pages; those behind it are left.
func takeFirst(pages *[]int) int {
	first := (*pages)[0]
	*pages = (*pages)[1:]
	return first
}

func (t table) call(l lent, page int) Step {
	return Step{Call: api.CallTable, A: uint32(l.space), B: uint32(page), C: uint32(t)}
}
func (d data) call(l lent, page int) Step {
	return Step{Call: api.CallData, A: uint32(l.space), B: uint32(page), C: d.word, D: uint32(l.staging)}
}
func (s share) call(l lent, page int) Step {
	return Step{Call: api.CallShare, A: uint32(l.space), B: s.word, C: uint32(page)}
}
func (t thread) call(l lent, page int) Step {
	return Step{Call: api.CallThread, A: uint32(l.space), B: uint32(page), C: uint32(t)}
}
func (spare) call(l lent, page int) Step {
	return Step{Call: api.CallSpare, A: uint32(l.space), B: uint32(page)}
}
