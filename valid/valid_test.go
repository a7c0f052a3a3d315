package valid_test

import (
	"slices"
	"testing"

	"warden/api"
	"warden/entry"
	"warden/pagedb"
	"warden/valid"
)

func TestExample1(t *testing.T) {
	w := begin(t)
	w.wiped(0)
	w.is("without the digest's words", 6, 0)
	w.put(7, 5, 1)
	w.is("both", 2, 7)
	w.digest(0)
	w.is("a word of a free page", 2, 7)
	if got := valid.Says(2); got != "a free page is zero" {
		t.Errorf("P13.3: Says(2) = %q", got)
	}
}

func TestExamples2And3(t *testing.T) {
	w := begin(t)
	w.take(2, entry.Second, 0)
	w.is("page 2 is not named", 8, 1)
	w.put(1, 3, 0x201)
	w.is("named", 0, 0)
	w.tries("named twice", 1, 4, 0x201, 8, 1)
	w.tries("page 3 named", 1, 4, 0x301, 8, 1)
	w.tries("a word behind the descriptors", 1, 256, 1, 8, 1)
	w.take(3, entry.Data, 0)
	w.is("page 3 is not mapped", 10, 3)
	w.steps(
		step{"mapped", 2, 1023, 0x303, 0, 0},
		step{"mapped twice", 2, 0, 0x303, 10, 3},
		step{"the insecure page 2", 2, 0, 0x201, 9, 2},
		step{"the secure page 4, which is free", 2, 0, 0x403, 9, 2},
	)
}

func TestExamples4And5(t *testing.T) {
	w := mapped(t)
	w.take(4, entry.Thread, 0)
	w.put(4, 0, 0xfffffffd)
	w.is("a thread", 0, 0)
	w.tries("a word saved", 4, 1, 1, 11, 4)
	w.ok("SetEntered", w.SetEntered(4, true))
	w.is("entered while its space is Init", 11, 4)
	w.final(0)
	w.is("entered, its space Final", 0, 0)
	w.state(0, entry.Stopped)
	w.is("stopped", 0, 0)
	for page := 1; page <= 3; page++ {
		for _, off := range []int{0, 3, 9, 255, 256, 1023} {
			w.put(page, off, 0x80000001+uint32(off))
		}
	}
	w.is("stopped, and the tables are broken", 0, 0)
	for page := 1; page <= 3; page++ {
		w.ok("Give", w.Give(page))
		w.is("stopped, and a page is given back", 0, 0)
	}
}

func TestExample6(t *testing.T) {
	none := entry.Entry{}
	w := rows(t, 0, none, none, entry.Entry{Type: entry.Data, Owner: 5}, none, none, none)
	w.is("page 5 is free", 3, 2)
	if valid.Holds(w.DB, 0) || valid.Holds(w.DB, 13) {
		t.Error("P13.1: Holds(0), Holds(13)")
	}
	if valid.Says(0) != "" {
		t.Errorf("P13.3: Says(0) = %q", valid.Says(0))
	}
}

func TestSays(t *testing.T) {
	for c, want := range map[int]string{
		1: "a space owns itself", 2: "a free page is zero", 3: "an owner is a space",
		4: "a space counts its pages", 5: "births are unlike", 6: "a space's words are its state's",
		7: "a space has one first table", 8: "a first table names the second ones", 9: "a second table maps what it may",
		10: "a data page is mapped once", 11: "a thread is whole", 12: "a spare page is zero",
	} {
		if got := valid.Says(c); got != want {
			t.Errorf("P13.3: Says(%d) = %q; want %q", c, got, want)
		}
	}
	for _, c := range noClauses {
		if got := valid.Says(c); got != "" {
			t.Errorf("P13.3: Says(%d) = %q", c, got)
		}
	}
	if valid.Clauses != 12 {
		t.Errorf("P13.1: Clauses is %d", valid.Clauses)
	}
}

// New wipes, so it is valid over a memory of any words; a database loaded over the same words isn't.
func TestNewIsValid(t *testing.T) {
	for pages := 1; pages <= 64; pages++ {
		m := memory(t, pages, 1+pages%3)
		for page := range pages {
			m.Write(secure(page), 1023-page, 0xffffffff)
		}
		w := world{t, pagedb.New(m)}
		if c, p := valid.Broken(w.DB); c != 0 || p != 0 {
			t.Fatalf("P13.5: New over %d pages: clause %d, page %d", pages, c, p)
		}
		for c := 1; c <= 12; c++ {
			if !valid.Holds(w.DB, c) {
				t.Fatalf("P13.5: New over %d pages: Holds(%d)", pages, c)
			}
		}
		w.tries("the last page", pages-1, 1023, 1, 2, pages-1)
		m.Write(api.Frame{Page: 0}, 7, 7)
		w.is("a word of an insecure page", 0, 0)
	}
}

// The clause with the least number counts, and of its pages the least, wherever the others break.
func TestFirstClauseThenFirstPage(t *testing.T) {
	w := mapped(t)
	w.take(4, entry.Thread, 0)
	w.take(5, entry.Spare, 0)
	w.is("one of each type", 0, 0)
	// From the last clause on down: a word of a page, and the page at which it breaks one more.
	for clause, x := range slices.Backward([][4]int{5: {0, 2, 4097, 0}, {0, 37, 2, 0}, {0, 0, 2, 0}, {1, 0, 0x301, 1}, {2, 8, 0x503, 2}, {2, 9, 0, 3}, {4, 5, 1, 4}, {5, 0, 1, 5}}) {
		if clause > 4 {
			w.put(x[0], x[1], uint32(x[2]))
			w.is("one clause more", clause, x[3])
		}
	}
	w = w.with(0, entry.Entry{Type: entry.Space, Refs: 4, State: entry.Init})
	w.is("4 ahead of 5", 4, 0)
	w = w.with(5, entry.Entry{Type: entry.Spare, Owner: 5})
	w.is("3 ahead of 4, though the count is right now", 3, 5)
	w = w.with(4, entry.Entry{Type: entry.Thread, Owner: 6})
	w.is("3 at two pages", 3, 4)
	w.steps(step{"2 ahead of 3", 7, 1023, 1, 2, 7}, step{"2 at two pages", 6, 1023, 1, 2, 6})
	w = w.with(7, entry.Entry{Type: entry.Space, Owner: 6, State: entry.Stopped})
	w.is("1 ahead of 2", 1, 7)
	w = w.with(0, entry.Entry{Type: entry.Space, Owner: 1, State: entry.Stopped})
	w.is("1 at two pages", 1, 0)
}
