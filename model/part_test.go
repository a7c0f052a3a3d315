package model_test

import (
	"fmt"
	"slices"
	"testing"

	"warden/model"
	"warden/monitor"
	"warden/pagedb"
)

// parts: where two models part, from either side; and whether they are the same.
func parts(t *testing.T, a, b *model.Model, want string) {
	t.Helper()
	if got, back := model.Part(a, b), model.Part(b, a); got != want || back != want {
		t.Errorf("P22.5: Part: %q, the other way round %q; want %q", got, back, want)
	}
	if model.Same(a, b) != (want == "") || model.Same(b, a) != (want == "") {
		t.Errorf("P22.5: Same: %v, where they part at %q", model.Same(a, b), want)
	}
	if model.Part(a, a) != "" || !model.Same(b, b) {
		t.Errorf("P22.5: a model parts from itself: %q, %q", model.Part(a, a), model.Part(b, b))
	}
}

func TestConfigsThatPart(t *testing.T) {
	with := func(streams ...[]uint32) monitor.Config {
		c := config(8, 2)
		c.Streams = streams
		return c
	}
	many := make([][]uint32, 64)
	last := make([][]uint32, 64)
	last[63] = []uint32{0}
	for i, x := range []struct {
		a, b monitor.Config
		want string
	}{
		{config(8, 2), config(8, 2), ""},
		{config(8, 2), config(9, 2), "config"},
		{config(8, 2), config(8, 3), "config"},
		{config(1, 64), config(64, 1), "config"},
		{with(), with(nil, nil, nil), ""},
		{with(), with(many...), ""},
		{with(), with(last...), "config"},
		{with(many...), with(last...), "config"},
		{with([]uint32{7}), with([]uint32{7}, []uint32{}), ""},
		{with([]uint32{7}), with([]uint32{7, 0}), "config"},
		{with([]uint32{7}), with([]uint32{8}), "config"},
		{with([]uint32{7}), with(nil, []uint32{7}), "config"},
		{with(nil, []uint32{7, 9}), with(nil, []uint32{7, 8}), "config"},
		{with([]uint32{0}), with(), "config"},
	} {
		t.Run(fmt.Sprint(i), func(t *testing.T) { parts(t, made(t, x.a), made(t, x.b), x.want) })
	}
	for i := range 8 {
		c := config(8, 2)
		c.Seed[i] ^= 1 << 31
		parts(t, made(t, config(8, 2)), made(t, c), "config")
	}
}

// Whatever else is unlike, the configuration is told first, also where there are not as many pages.
func TestConfigIsFirst(t *testing.T) {
	a, b := made(t, config(8, 2)), made(t, config(64, 64))
	a.Do(10, 7, 6, 0, 0, 0)
	b.Do(10, 60, 63, 0, 0, 0)
	b.Write(63, 1023, 9)
	parts(t, a, b, "config")
}

func TestRegistersAndWordsThatPart(t *testing.T) {
	for r := 14; r >= 0; r-- {
		a, b := made(t, config(3, 3)), made(t, config(3, 3))
		for later := r; later < 15; later++ {
			b.SetRegister(later, 1<<31)
		}
		b.Write(0, 0, 1)
		parts(t, a, b, fmt.Sprintf("register %d", r))
	}
	for _, at := range [][2]int{{0, 0}, {0, 1}, {0, 1023}, {1, 0}, {1, 512}, {2, 1023}} {
		a, b := made(t, config(3, 3)), made(t, config(3, 3))
		a.Write(at[0], at[1], 0x80000000)
		b.Write(2, 1023, 5)
		if at[0] < 2 {
			b.Write(at[0]+1, 0, 7)
		}
		parts(t, a, b, fmt.Sprintf("insecure %d word %d", at[0], at[1]))
	}
}

// births: the database with another number of births.
func births(n uint32) func(*pagedb.DB) *pagedb.DB {
	return func(d *pagedb.DB) *pagedb.DB {
		words := d.Words()
		words[0] = n
		other, _ := pagedb.Load(d.Memory(), words)
		return other
	}
}

// entries: the database with the words of a page's entry.
func entries(page int, a, b uint32) func(*pagedb.DB) *pagedb.DB {
	return func(d *pagedb.DB) *pagedb.DB {
		words := d.Words()
		words[1+2*page], words[2+2*page] = a, b
		other, _ := pagedb.Load(d.Memory(), words)
		return other
	}
}

// laid: the database with words of a secure page, from an offset on.
func laid(page, off int, words ...uint32) func(*pagedb.DB) *pagedb.DB {
	return func(d *pagedb.DB) *pagedb.DB {
		for i, v := range words {
			d.Memory().Write(secure(page), off+i, v)
		}
		return d
	}
}

func all(changes ...func(*pagedb.DB) *pagedb.DB) func(*pagedb.DB) *pagedb.DB {
	return func(d *pagedb.DB) *pagedb.DB {
		for _, change := range changes {
			d = change(d)
		}
		return d
	}
}

// change: of the settled machine, and where it parts from it then.
type change struct {
	part string
	does func(*pagedb.DB) *pagedb.DB
}

// changes: in the order in which Part looks for them. The entries are words as chapter 11 has them.
func changes() []change {
	zeros := make([]uint32, 26)
	return []change{
		{"births", births(9)},
		{"page 0 birth", laid(0, 1, 7)},
		{"page 0 draws", laid(0, 2, 4096)},
		{"page 0 measurement", laid(0, 10, 1)},
		{"page 0 tables", laid(1, 0, 0, 0, 0x201)},
		{"page 0 maps", laid(2, 9, 1)},
		{"page 3 word 0", laid(3, 0, 0xffffffff)},
		{"page 3 word 7", laid(3, 7, 1)},
		{"page 3 word 1023", laid(3, 1023, 1)},
		{"page 4 word 100", laid(4, 100, 1, 1, 1)},
		{"page 5 entry", laid(5, 0, 0x1001)},
		{"page 5 entered", all(entries(5, 2, 0), laid(5, 1, zeros[:17]...))},
		{"page 5 saved", laid(5, 1, 8)},
		{"page 5 saved", laid(5, 15, 1)},
		{"page 5 saved", laid(5, 16, 1)},
		{"page 5 saved", laid(5, 17, 2)},
		{"page 6 entry", laid(6, 0, 0)},
		{"page 6 entered", entries(6, 0x102, 0)},
		{"page 7 type", all(entries(7, 0, 0), entries(0, 0x21, 7))},
		{"page 8 owner", all(entries(8, 0x90006, 0), entries(0, 0x21, 7), entries(9, 0x90011, 4))},
		{"page 9 state", entries(9, 0x90031, 3)},
		{"page 9 birth", laid(9, 1, 5)},
		{"page 9 draws", laid(9, 2, 1)},
		{"page 9 tables", laid(10, 3, 0, 0xb01)},
		{"page 9 maps", laid(11, 1023, 1)},
		{"page 9 digest", laid(9, 21, 1)},
		{"page 9 digest", laid(9, 24, 1)},
		{"page 12 entry", laid(12, 0, 78)},
		{"page 13 type", all(entries(13, 0x90006, 0), entries(9, 0x90011, 4))},
	}
}

// Each part of a model is told by its name, where nothing else is unlike; and where two are, the one that comes first.
func TestEachPart(t *testing.T) {
	w := settled(t)
	w = w.over(births(60)(w.m.DB().Clone()))
	pairs := 0
	for i, c := range changes() {
		other := w.over(c.does(w.m.DB().Clone()))
		parts(t, w.n, other.n, c.part)
		for _, later := range changes()[i+1:] {
			d := later.does(c.does(w.m.DB().Clone()))
			if m, e := monitor.Over(w.m.Config(), d, w.m.Registers()); e == 0 && independent(c, later) {
				parts(t, w.n, read(t, m), c.part)
				pairs++
			}
		}
	}
	if pairs < 200 {
		t.Errorf("%d pairs of changes alone", pairs)
	}
}

// independent: two changes that don't undo one another: those of several entries lay the same ones again.
func independent(a, b change) bool {
	several := []string{"page 7 type", "page 8 owner", "page 9 state", "page 13 type"}
	return a.part != b.part && !(slices.Contains(several, a.part) && slices.Contains(several, b.part))
}

// What nobody looks at parts no models: the tables of a stopped space, the page of its table.
func TestStoppedTablesAreNoPart(t *testing.T) {
	w := settled(t)
	w.takes([]uint32{19, 0})
	other := w.over(all(laid(1, 0, 1, 2, 3, 0xffffffff), laid(2, 1, 0, 5), laid(0, 0, 77))(w.m.DB().Clone()))
	parts(t, w.n, other.n, "")
	other.wants(0, 0, 0, 20, 1)
	other.wants(0, 0, 0, 20, 2)
}

// Two spaces that were built of the same in another order are told apart by their digests alone, stopped ones too; and by their measurements, once they are final.
func TestDigests(t *testing.T) {
	orders := [][][]uint32{{{12, 0, 2, 0}, {11, 0, 3, 0}}, {{11, 0, 3, 0}, {12, 0, 2, 0}}}
	for _, then := range []struct {
		calls [][]uint32
		want  string
	}{
		{[][]uint32{{15, 0, 4}}, "page 0 digest"},
		{[][]uint32{{19, 0}}, "page 0 digest"},
		{[][]uint32{{16, 0}}, "page 0 measurement"},
		{[][]uint32{{16, 0}, {19, 0}}, "page 0 measurement"},
		{[][]uint32{{19, 0}, {20, 1}, {20, 2}, {20, 3}, {20, 0}}, ""},
	} {
		var both []*model.Model
		for _, order := range orders {
			w := booted(t, config(5, 1))
			w.takes([]uint32{10, 0, 1})
			w.takes(order...)
			w.takes(then.calls...)
			w.set(0, 0, 0, 0, 0)
			both = append(both, w.n)
		}
		parts(t, both[0], both[1], then.want)
	}
}

// Of two spaces in unlike states the state is told, not the words that go with it.
func TestStatesThatPart(t *testing.T) {
	calls := [][]uint32{{10, 0, 1}, {16, 0}, {19, 0}}
	for i := range calls {
		for j := range calls {
			a, b := booted(t, config(2, 1)), booted(t, config(2, 1))
			a.takes(calls[:i+1]...)
			b.takes(calls[:j+1]...)
			a.set(0, 0, 0)
			b.set(0, 0, 0)
			want := "page 0 state"
			if i == j {
				want = ""
			}
			parts(t, a.n, b.n, want)
		}
	}
}
