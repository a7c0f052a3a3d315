package host

import "slices"

// The two kinds of page numbers are types of their own, so that none is lent as one of the other kind, or comes back as one.
type (
	securePage   int
	insecurePage int
)

// pool: the numbers that may be lent and are not, rising.
type pool[N ~int] struct{ free []N }

// poolOf: all from the first on, below the bound.
func poolOf[N ~int](first, below N) pool[N] {
	var p pool[N]
	for n := first; n < below; n++ {
		p.free = append(p.free, n)
	}
	return p
}

func (p *pool[N]) size() int { return len(p.free) }

// take: so many of them, the least, rising. There must be as many.
func (p *pool[N]) take(count int) []N {
	lent := slices.Clone(p.free[:count])
	p.free = slices.Delete(p.free, 0, count)
	return lent
}

// give: these, which were lent, are free again.
func (p *pool[N]) give(lent []N) {
	p.free = append(p.free, lent...)
	slices.Sort(p.free)
}

// numbers: as the layers below take them, and as callers may have them.
func numbers[N ~int](pages []N) []int {
	plain := make([]int, len(pages))
	for k, page := range pages {
		plain[k] = int(page)
	}
	return plain
}
