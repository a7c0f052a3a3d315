package mem

import "warden/api"

// page is an array by value, so that assigning and comparing take all words of it.
type page [api.PageWords]uint32

// zeroPages: so many pages of their own, all zero.
func zeroPages(n int) []*page {
	pages := make([]*page, n)
	for i := range pages {
		pages[i] = new(page)
	}
	return pages
}

// clonePages: pages of their own with the same words.
func clonePages(from []*page) []*page {
	pages := zeroPages(len(from))
	for i, p := range from {
		*pages[i] = *p
	}
	return pages
}

// samePages: as many pages, and the same words in each?
func samePages(a, b []*page) bool {
	if len(a) != len(b) {
		return false
	}
	for i, p := range a {
		if *p != *b[i] {
			return false
		}
	}
	return true
}
