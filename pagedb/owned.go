package pagedb

import (
	"iter"

	"warden/entry"
)

// Free: how many pages are free. Owned: the pages that a space owns, itself left out, rising; none if the page is no space.
func (d *DB) Free() int {
	count := 0
	for range d.pages(isFree) {
		count++
	}
	return count
}
func (d *DB) Owned(space int) []int {
	if !d.isSpace(space) {
		return nil
	}
	var list []int
	for page := range d.pages(isOf(space)) {
		list = append(list, page)
	}
	return list
}

// pages: those, rising, of which that is so.
func (d *DB) pages(so func(page int, e entry.Entry) bool) iter.Seq[int] {
	return func(yield func(int) bool) {
		for page := range d.Pages() {
			if so(page, d.at(page)) && !yield(page) {
				return
			}
		}
	}
}

func isFree(_ int, e entry.Entry) bool { return e.Type == entry.Free }

// isOf: a free page has no owner, though 0 stands in its entry.
func isOf(space int) func(int, entry.Entry) bool {
	return func(page int, e entry.Entry) bool {
		return page != space && e.Owner == space && e.Type != entry.Free
	}
}

// isSpace: of any number, be it a page or not.
func (d *DB) isSpace(page int) bool {
	e, _ := d.Entry(page)
	return e.Type == entry.Space
}
