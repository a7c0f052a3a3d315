package regs_test

import (
	"math/rand"
	"slices"
	"testing"

	"warden/api"
	"warden/regs"
)

// packed: the words of f, one by one.
func packed(f regs.File) [17]uint32 {
	var p [17]uint32
	for i := range 15 {
		p[i] = f.R[i]
	}
	p[15] = f.PC
	switch {
	case f.Z:
		p[16] = 1
	case f.N && f.L:
		p[16] = 6
	case f.N:
		p[16] = 2
	case f.L:
		p[16] = 4
	}
	return p
}

// back: f as it comes back from its words.
func back(f regs.File) regs.File {
	if f.Z {
		f.N, f.L = false, false
	}
	return f
}

func TestPackExample(t *testing.T) {
	if regs.PackWords != 17 {
		t.Errorf("P8.6: PackWords is %d", regs.PackWords)
	}
	f := regs.Start(0x1000, 1, 2, 3)
	p := regs.Pack(f)
	if p != [17]uint32{1, 2, 3, 0, 0, 0, 0, 0, 0, 0, 0, 0, 0, 0, 0, 0x1000, 0} {
		t.Errorf("P8.6: Pack(Start(0x1000, 1, 2, 3)) = %x", p)
	}
	if g, e := regs.Unpack(p[:]); g != f || e != api.OK {
		t.Errorf("P8.6: Unpack = %+v, %d", g, e)
	}
}

func TestPackAndBack(t *testing.T) {
	r := rand.New(rand.NewSource(86))
	files := append(flagged(full()), flagged(regs.File{})...)
	for range 2000 {
		files = append(files, random(r))
	}
	for _, f := range files {
		p := regs.Pack(f)
		if p != packed(f) {
			t.Fatalf("P8.6: Pack(%+v) = %x", f, p)
		}
		if g, e := regs.Unpack(p[:]); g != back(f) || e != api.OK {
			t.Fatalf("P8.6: Unpack of Pack of %+v = %+v, %d", f, g, e)
		}
	}
}

func TestUnpackRefuses(t *testing.T) {
	refused := func(words []uint32) {
		t.Helper()
		if f, e := regs.Unpack(words); f != (regs.File{}) || e != api.ErrContext {
			t.Errorf("P8.6: Unpack(%x) = %+v, %d; want the zero file and ErrContext", words, f, e)
		}
	}
	refused(nil)
	p := packed(full())
	for n := range 40 {
		words := make([]uint32, n)
		copy(words, p[:])
		if n != 17 {
			refused(words)
		}
	}
	// The room behind the length is not read.
	refused(p[:16])
	refused(make([]uint32, api.MaxWords))
	for _, w := range append([]uint32{3, 5, 7, 8, 9, 10, 12, 14, 16}, edges[5:]...) {
		p[16] = w
		refused(p[:])
	}
}

func TestUnpackKeepsItsWords(t *testing.T) {
	p := packed(full())
	room := append(p[:], 77, 78)
	was := slices.Clone(room)
	f, _ := regs.Unpack(room[:17])
	if !slices.Equal(room, was) {
		t.Errorf("rule 5: Unpack changed its words: %x", room)
	}
	clear(room)
	if f != full() {
		t.Errorf("rule 5: the file hangs on the words: %+v", f)
	}
}
