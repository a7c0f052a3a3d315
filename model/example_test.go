package model_test

import (
	"slices"
	"testing"

	"warden/api"
	"warden/entry"
	"warden/measure"
	"warden/model"
	"warden/monitor"
	"warden/walk"
)

func TestExample1(t *testing.T) {
	n := made(t, monitor.Config{Secure: 8, Insecure: 2})
	if p, e := n.Page(7); p.Type != entry.Free || p.Owner != 0 || len(p.Words) != 0 || e != api.OK {
		t.Errorf("P22.3: Page(7): %+v, %d", p, e)
	}
	for _, page := range []int{8, -1} {
		if p, e := n.Page(page); p.Type != entry.Free || p.Owner != 0 || p.Words != nil || e != api.ErrPage {
			t.Errorf("P22.3: Page(%d): %+v, %d", page, p, e)
		}
	}
	if u, e := n.Thread(0); u != (model.Thread{}) || e != api.ErrType {
		t.Errorf("P22.3: Thread(0): %+v, %d", u, e)
	}
	if s, e := n.Space(0); !sameSpace(s, model.Space{}) || e != api.ErrType {
		t.Errorf("P22.3: Space(0): %+v, %d", s, e)
	}
}

// example: the machine of the examples 2 to 4, with words in the insecure page 1.
func example(t *testing.T) (world, []uint32) {
	t.Helper()
	w := booted(t, config(8, 2))
	words := make([]uint32, 1024)
	for off := range words {
		words[off] = uint32(off*off + 3)
	}
	w.write(1, 0, words...)
	w.takes([]uint32{10, 3, 1})
	return w, words
}

func (w world) space(page int) model.Space {
	w.Helper()
	s, e := w.n.Space(page)
	if e != api.OK {
		w.Fatalf("P22.3: Space(%d): %d", page, e)
	}
	return s
}

func TestExample2(t *testing.T) {
	w, _ := example(t)
	if s := w.space(3); !sameSpace(s, model.Space{State: entry.Init}) {
		t.Errorf("P22.3: Space(3): %+v", s)
	}
	three, _ := w.n.Page(3)
	one, _ := w.n.Page(1)
	if !samePage(three, model.Page{Type: entry.Space, Owner: 3}) || !samePage(one, model.Page{Type: entry.First, Owner: 3}) {
		t.Errorf("P22.3: %+v, %+v", three, one)
	}
}

func TestExamples3And4(t *testing.T) {
	w, words := example(t)
	w.takes([]uint32{12, 3, 2, 7})
	if s := w.space(3); !slices.Equal(s.Tables, []model.Table{{Index: 7, Page: 2}}) || len(s.Maps) != 0 {
		t.Errorf("P22.3: %+v", s)
	}
	w.takes([]uint32{13, 3, 0, 0x1c00003, 1})
	data := walk.At{VA: 0x1c00000, Map: walk.Map{Frame: secure(0), Write: true}}
	if s := w.space(3); !slices.Equal(s.Maps, []walk.At{data}) {
		t.Errorf("P22.3: %+v", s)
	}
	if p, _ := w.n.Page(0); !samePage(p, model.Page{Type: entry.Data, Owner: 3, Words: words}) {
		t.Errorf("P22.3: Page(0): %+v", p)
	}
	w.takes([]uint32{14, 3, 0x1c01001, 1})
	if s := w.space(3); !slices.Equal(s.Maps, []walk.At{data, {VA: 0x1c01000, Map: walk.Map{Frame: insecure(1)}}}) {
		t.Errorf("P22.3: %+v", s)
	}
	w.takes([]uint32{16, 3})
	measured, _ := measure.Measure([]measure.Op{{Kind: measure.Table, Arg: 7}, {Kind: measure.Data, Arg: 0x1c00003, Words: words}, {Kind: measure.Share, Arg: 0x1c01001}})
	if s := w.space(3); s.State != entry.Final || s.Measurement != measured || len(s.Tables) != 1 || len(s.Maps) != 2 {
		t.Errorf("P22.3: final: %+v", s)
	}
	w.takes([]uint32{19, 3})
	if s := w.space(3); !sameSpace(s, model.Space{State: entry.Stopped, Measurement: measured}) {
		t.Errorf("P22.3: stopped: %+v", s)
	}
	if p, _ := w.n.Page(0); !samePage(p, model.Page{Type: entry.Data, Owner: 3, Words: words}) {
		t.Errorf("P22.3: Page(0) of a stopped space: %+v", p)
	}
}

func TestExample5(t *testing.T) {
	w, _ := example(t)
	two := func() (*model.Model, *model.Model) { return read(t, w.m), read(t, w.m) }
	a, b := two()
	parts(t, a, b, "")
	a.Write(0, 5, 1)
	parts(t, a, b, "insecure 0 word 5")
	a, b = two()
	b.Do(20, 5, 0, 0, 0, 0)
	parts(t, a, b, "register 0")
	other := config(8, 2)
	other.Seed[0]++
	parts(t, made(t, config(8, 2)), made(t, other), "config")
}
