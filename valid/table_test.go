package valid_test

import (
	"testing"

	"warden/entry"
	"warden/pagedb"
)

// two: two spaces, 0 and 6, of the first the pages 1 (first), 2 and 4 (second), 3 (data), 5 (thread), 9 (spare); of the second 7 (first), 8 (second), 10 (data); 11 is free.
func two(t *testing.T) world {
	t.Helper()
	w := world{t, pagedb.New(memory(t, 12, 3))}
	for _, space := range []int{0, 6} {
		w.ok("TakeSpace", w.TakeSpace(space, space+1))
		w.digest(space)
		w.take(space+2, entry.Second, space)
		w.put(space+1, 255, uint32(space+2)<<8|1)
	}
	w.take(3, entry.Data, 0)
	w.take(10, entry.Data, 6)
	w.take(4, entry.Second, 0)
	w.put(1, 0, 0x401)
	w.take(5, entry.Thread, 0)
	w.take(9, entry.Spare, 0)
	w.put(2, 1023, 0x303)
	w.put(8, 0, 0xa0f)
	w.is("two spaces", 0, 0)
	return w
}

// Clause 8: what a word of a first table may be.
func TestFirstTablesNameSecondOnes(t *testing.T) {
	w := two(t)
	for off := 1; off < 255; off++ {
		w.tries("named twice", 1, off, 0x401, 8, 1)
		w.tries("a word", 1, off, 1<<(off%32), 8, 1)
	}
	for _, v := range []uint32{0x001, 0x101, 0x301, 0x501, 0x601, 0x701, 0x801, 0x901, 0xa01, 0xb01, 0xc01, 0x3f01, 0x4001, 0x400, 0x402, 0x403, 0x405, 0x409, 0x411, 0x441, 0x481, 0x40000401, 0x80000401, 0x10401, 0xffffffff} {
		w.tries("a word more", 1, 77, v, 8, 1)
		w.tries("a word in the place of page 4", 1, 0, v, 8, 1)
	}
	w.tries("page 4 isn't named", 1, 0, 0, 8, 1)
	w.tries("page 2 isn't named", 1, 255, 0, 8, 1)
	w.tries("a second table of another space", 7, 1, 0x201, 8, 7)
	w.is("as it was", 0, 0)
	for off := range 256 {
		was := w.put(1, 0, 0)
		if off < 255 {
			w.tries("page 4 elsewhere", 1, off, 0x401, 0, 0)
		}
		w.put(1, 0, was)
	}
	for off := 256; off < 1024; off++ {
		w.tries("behind the descriptors", 1, off, 0x401, 8, 1)
		w.tries("behind the descriptors", 7, off, 1<<(off%32), 8, 7)
	}
}

// Clause 8: a descriptor behind the 256th names nothing.
func TestOnlyTheFirstWordsName(t *testing.T) {
	w := two(t)
	w.put(1, 0, 0)
	for _, off := range []int{256, 511, 1023} {
		w.tries("behind the descriptors", 1, off, 0x401, 8, 1)
	}
}

// Clause 8 speaks of each first table by itself, and of none that isn't alive.
func TestWhichFirstTablesCount(t *testing.T) {
	w := two(t)
	more := w.with(11, entry.Entry{Type: entry.First})
	more.told("another first table, which names none", 8, false)
	more.lay(11, 3, []uint32{0x201, 0x401})
	more.told("another first table, which names the same", 8, true)
	lone := w.with(11, entry.Entry{Type: entry.First, Owner: 3})
	lone.put(11, 999, 1)
	lone.told("a first table without a space", 8, true)
	lone.told("a first table without a space", 3, false)
	w.lay(11, 3, []uint32{0, 0})
	w.put(11, 999, 0)
	w.final(0)
	w.tries("a final space", 1, 3, 1, 8, 1)
	w.state(0, entry.Stopped)
	w.lay(1, 250, []uint32{0xffffffff, 0x401, 0x401, 0x301, 2, 0, 1, 0x201})
	w.is("a stopped space", 0, 0)
	w.tries("the other space", 7, 3, 1, 8, 7)
}

// Clause 9: what a word of a second table may be, wherever it stands.
func TestSecondTablesMapWhatTheyMay(t *testing.T) {
	w := two(t)
	for off := 1; off < 1024; off++ {
		w.tries("the insecure page 2", 8, off, 0x205, 0, 0)
		w.tries("a word", 8, off, 2<<(off%31), 9, 8)
		w.tries("the insecure page 3", 8, off, 0x301, 9, 8)
		w.tries("its own data once more", 8, off, 0xa03, 10, 10)
	}
	for _, v := range []uint32{0x001, 0x005, 0x101, 0x105, 0x201, 0x205} {
		w.tries("an insecure page", 4, 8, v, 0, 0)
	}
	for _, v := range []uint32{0x301, 0x305, 0x3f01, 0x3f05, 0x4001, 0x009, 0x00d, 0x109, 0x10d, 0x100, 0x102, 0x104, 0x111, 0x1001_0001, 0x8000_0101, 0xffffffff} {
		w.tries("no insecure page", 4, 8, v, 9, 4)
	}
	for page := range uint32(64) {
		for _, low := range []uint32{3, 7, 11, 15} {
			clause, at := 9, 4
			if page == 3 {
				clause, at = 10, 3
			}
			w.tries("a secure page", 4, 8, page<<8|low, clause, at)
		}
		for _, low := range []uint32{2, 6, 10, 14, 0x13, 0x23, 0x43, 0x83, 0x1003, 0x80000003} {
			w.tries("no descriptor", 4, 8, page<<8|low, 9, 4)
		}
	}
}

// Clause 9 speaks of those that are alive, named or not.
func TestWhichSecondTablesCount(t *testing.T) {
	w := two(t)
	w.put(1, 0, 0)
	w.put(4, 8, 2)
	w.told("a second table that isn't named", 9, false)
	w.put(4, 8, 0)
	lone := w.with(11, entry.Entry{Type: entry.Second, Owner: 3})
	lone.put(11, 999, 2)
	lone.told("a second table without a space", 9, true)
	lone.put(11, 999, 0)
	w.put(1, 0, 0x401)
	w.final(0)
	w.tries("a final space", 4, 3, 2, 9, 4)
	w.state(0, entry.Stopped)
	for _, off := range somewhere {
		w.put(2, off, 0xffffffff-uint32(off))
		w.put(4, off, 0x303)
	}
	w.is("a stopped space", 0, 0)
	w.tries("the other space", 8, 3, 2, 9, 8)
	w.tries("data of a stopped space", 8, 3, 0x303, 9, 8)
}

// Clause 10: just one map, with whatever permissions, out of all second tables of the space and of no other.
func TestDataPagesAreMappedOnce(t *testing.T) {
	w := two(t)
	for _, low := range []uint32{3, 7, 11, 15} {
		w.tries("one map", 2, 1023, 0x300|low, 0, 0)
		w.tries("one more in the same table", 2, 0, 0x300|low, 10, 3)
		w.tries("one more in the other table", 4, 1023, 0x300|low, 10, 3)
	}
	w.put(2, 1023, 0)
	w.is("none", 10, 3)
	for off := range 1024 {
		w.tries("elsewhere", 4, off, 0x30f, 0, 0)
	}
	w.tries("the insecure page of that number", 2, 1023, 0x301, 9, 2)
	for _, low := range []uint32{1, 5, 2, 6, 0x13, 0x83, 0x1003, 0x80000003} {
		w.put(4, 5, 0x300|low)
		w.told("no map of it", 10, false)
	}
	w.put(4, 5, 0x303)
	w.put(4, 6, 0x301)
	w.told("one, beside the insecure page of that number", 10, true)
	w.put(4, 6, 0)
	w.put(8, 5, 0x303)
	w.told("one more in another space's table", 10, true)
	w.put(4, 5, 0)
	w.told("one in another space's table alone", 10, false)
}

// Clause 10 counts the maps of tables that aren't named too, and speaks of data pages that are alive alone.
func TestWhichDataPagesCount(t *testing.T) {
	w := two(t)
	w.put(1, 255, 0)
	w.told("its table isn't named", 10, true)
	w.put(4, 7, 0x303)
	w.told("one in a table that isn't named, and one more", 10, false)
	w.put(4, 7, 0)
	w.put(3, 7, 0x303)
	w.put(9, 7, 0x303)
	w.put(1, 255, 0x303)
	w.told("words of pages that are no second tables", 10, true)
	w.put(2, 1023, 0)
	w.told("words of pages that are no second tables, alone", 10, false)
	w.with(3, entry.Entry{Type: entry.Data, Owner: 11}).told("data without a space", 10, true)
	w.put(9, 7, 0)
	w.final(0)
	w.told("a final space", 10, false)
	w.state(0, entry.Stopped)
	w.is("a stopped space", 0, 0)
	w.tries("the other space", 8, 0, 0, 10, 10)
	w.put(4, 7, 0xa03)
	w.tries("a stopped space's map", 8, 0, 0, 10, 10)
	w.is("a stopped space's map beside", 0, 0)
}
