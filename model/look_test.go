package model_test

import (
	"math"
	"testing"

	"warden/api"
	"warden/model"
	"warden/walk"
)

func TestLooksOfNoPage(t *testing.T) {
	w := settled(t)
	for _, page := range []int{math.MinInt, -14, -1, 14, 15, 64, 1 << 32, math.MaxInt} {
		p, e := w.n.Page(page)
		u, f := w.n.Thread(page)
		s, g := w.n.Space(page)
		if e != api.ErrPage || f != api.ErrPage || g != api.ErrPage || !samePage(p, model.Page{}) || u != (model.Thread{}) || !sameSpace(s, model.Space{}) {
			t.Errorf("P22.3: page %d: %+v, %d; %+v, %d; %+v, %d", page, p, e, u, f, s, g)
		}
	}
	w.same("P22.3: looks")
}

// What is told is new memory each time: nothing that is done to it, or to its spare room, is seen again.
func TestLooksAreNewMemory(t *testing.T) {
	w := settled(t)
	p, _ := w.n.Page(3)
	again, _ := w.n.Page(3)
	p.Words = p.Words[:cap(p.Words)]
	for i := range p.Words {
		p.Words[i] ^= 0xffffffff
	}
	if again.Words[0] == p.Words[0] {
		t.Error("P22.3: two answers share their words")
	}
	s, other := w.space(0), w.space(0)
	s.Maps, s.Tables = s.Maps[:cap(s.Maps)], s.Tables[:cap(s.Tables)]
	for i := range s.Maps {
		s.Maps[i] = walk.At{VA: 5}
	}
	for i := range s.Tables {
		s.Tables[i] = model.Table{Index: 5, Page: 6}
	}
	if !sameSpace(other, w.space(0)) || len(other.Maps) != 4 || other.Maps[0].VA != 0x1000 || other.Tables[0].Page != 2 {
		t.Errorf("P22.3: %+v", other)
	}
	w.same("P22.3: what was told is changed")
}

// A data page's words are its own from the call on: the insecure page that they came from, and the others, are other words.
func TestDataPagesAreApart(t *testing.T) {
	w := booted(t, config(8, 2))
	w.write(1, 0, 5, 6)
	w.takes([]uint32{10, 0, 1}, []uint32{12, 0, 2, 0}, []uint32{13, 0, 3, 0x1003, 1}, []uint32{13, 0, 4, 0x2003, 1})
	w.write(1, 0, 7, 8)
	for page, want := range map[int]uint32{3: 5, 4: 5} {
		if p, _ := w.n.Page(page); p.Words[0] != want || len(p.Words) != 1024 {
			t.Errorf("P22.2: the data page %d: %v", page, p.Words[:2])
		}
	}
	w.same("P22.2: a write into the page that was copied")
	read(t, w.m).Write(1, 0, 99)
	w.same("P22.4: a write of another model")
}

func TestSystemsWords(t *testing.T) {
	w := booted(t, config(5, 3))
	numbers := []int{math.MinInt, -1025, -1, 0, 1, 2, 3, 4, 5, 64, 1023, 1024, 1025, 1 << 32, math.MaxInt}
	for _, page := range numbers {
		for _, off := range numbers {
			v := uint32(page*5000 + off + 1)
			want, e := w.m.Write(page, off, v), w.n.Write(page, off, v)
			if e != want {
				t.Errorf("P22.2: Write(%d, %d): %d; want %d", page, off, e, want)
			}
			a, errA := w.m.Read(page, off)
			b, errB := w.n.Read(page, off)
			if a != b || errA != errB {
				t.Errorf("P22.2: Read(%d, %d): %d, %d; want %d, %d", page, off, b, errB, a, errA)
			}
			w.same("P22.2: Write and Read")
		}
	}
}

func TestSystemsRegisters(t *testing.T) {
	w := booted(t, config(4, 2))
	for _, r := range []int{math.MinInt, -1, 0, 1, 7, 14, 15, 16, 1 << 32, 1<<32 + 3, math.MaxInt} {
		want, e := w.m.SetRegister(r, uint32(r)+0x80000000), w.n.SetRegister(r, uint32(r)+0x80000000)
		if e != want {
			t.Errorf("P22.2: SetRegister(%d): %d; want %d", r, e, want)
		}
		w.same("P22.2: SetRegister")
	}
	told := w.n.Registers()
	told[3] ^= 1
	w.same("P22.2: what Registers told")
}
