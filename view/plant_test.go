package view_test

import (
	"math"
	"slices"
	"testing"

	"warden/api"
	"warden/entry"
	"warden/valid"
	"warden/view"
)

// Every birth, many seeds and draws: what becomes another's are the words that the chapter names, in their order.
func TestPlantEveryBirth(t *testing.T) {
	w := town(t)
	for _, birth := range births() {
		for _, seed := range []uint32{0, 1, 2, 3, 0x80000000, math.MaxUint32, 12345} {
			w.plant(birth, seed, []uint32{seed, 5})
		}
	}
	if w.seen["Plant 0"] != 4*7 || w.seen["Plant 92"] != 12*7 {
		t.Errorf("P25.6: %v", w.seen)
	}
}

// The numbers that example 3 names, and what comes behind them.
func TestGenerator(t *testing.T) {
	draw := draws(0)
	if a, b := draw(), draw(); a != 0x00042021 || b != 0x04080601 {
		t.Fatalf("the plain generator: %#x, %#x", a, b)
	}
	w := chapter(t, true)
	p, _ := view.Plant(w.m, 0, 0, nil)
	again, _ := view.Plant(w.m, 0, 1, nil)
	if !p.DB().Memory().Same(again.DB().Memory()) {
		t.Error("P25.6: the seeds 0 and 1 are unlike")
	}
	other, _ := view.Plant(w.m, 0, 2, nil)
	if other.DB().Memory().Same(p.DB().Memory()) {
		t.Error("P25.6: the seeds 1 and 2 are alike")
	}
	// The space's page is the first by number, then comes the data page, then the thread's.
	d := p.DB()
	next := draws(1)
	got := []uint32{peek(d, 0, 2)}
	want := []uint32{next() % 4097}
	for off := range 1024 {
		got, want = append(got, peek(d, 3, off)), append(want, next())
	}
	for off := 1; off < 17; off++ {
		got, want = append(got, peek(d, 4, off)), append(want, next())
	}
	got, want = append(got, peek(d, 4, 17)), append(want, []uint32{0, 1, 2, 4, 6}[next()%5])
	if !slices.Equal(got, want) {
		t.Errorf("P25.6: the draws are %#x; want %#x", got, want)
	}
	if peek(d, 4, 0) != 0x1000 || peek(d, 4, 18) != 0 || peek(d, 0, 1) != 0 || peek(d, 0, 0) != 1 {
		t.Error("P25.6: a word beside the secrets is another one")
	}
}

// All five words of flags come, and draws up to the most.
func TestFlagsAndDraws(t *testing.T) {
	w := chapter(t, true)
	flags, most := map[uint32]int{}, uint32(0)
	for seed := range uint32(400) {
		p, e := view.Plant(w.m, 0, seed*7919, nil)
		if e != api.OK {
			t.Fatalf("P25.6: %d", e)
		}
		flags[peek(p.DB(), 4, 17)]++
		taken := peek(p.DB(), 0, entry.SpaceDraws)
		if taken > api.MaxDraws {
			t.Fatalf("P25.6: %d draws", taken)
		}
		most = max(most, taken)
	}
	if len(flags) != 5 || flags[0] == 0 || flags[1] == 0 || flags[2] == 0 || flags[4] == 0 || flags[6] == 0 {
		t.Errorf("P25.6: the flags are %v", flags)
	}
	if most < 4000 {
		t.Errorf("P25.6: never more than %d draws", most)
	}
}

// A seed that lays the most draws there may be: the bound itself comes.
func TestMostDraws(t *testing.T) {
	for seed := uint32(1); ; seed++ {
		if draws(seed)()%4097 != 4096 {
			continue
		}
		w := chapter(t, false)
		p, e := w.plant(0, seed, nil)
		if e != api.OK || peek(p.DB(), 0, 2) != 4096 {
			t.Errorf("P25.6: the seed %d: %d draws", seed, peek(p.DB(), 0, 2))
		}
		return
	}
}

// Streams: the list reaches to the birth, and no further than it did; those ahead that weren't there have none.
func TestPlantStreams(t *testing.T) {
	for _, streams := range [][][]uint32{nil, {}, {{1}}, {{1}, {2}, {3, 4}}, {nil, {5}, {}, nil, {6}, {7}}, make([][]uint32, 64)} {
		w := booted(t, 8, 1, streams...)
		for range 3 {
			w.does(api.CodeOK, 0, api.CallSpace, 0, 1)
			w.does(api.CodeOK, 0, api.CallStop, 0)
			w.does(api.CodeOK, 0, api.CallRemove, 1)
			w.does(api.CodeOK, 0, api.CallRemove, 0)
		}
		w.does(api.CodeOK, 0, api.CallSpace, 7, 5)
		for _, draws := range [][]uint32{nil, {}, {9}, {0}, slices.Repeat([]uint32{11}, 4096)} {
			p, e := w.plant(3, 1, draws)
			if e != api.OK {
				t.Fatalf("P25.6: %d", e)
			}
			got := p.Config().Streams
			if len(got) != max(4, len(streams)) || !slices.Equal(got[3], draws) {
				t.Errorf("P25.6: %d streams, %d draws; want %d, %d", len(got), len(got[3]), max(4, len(streams)), len(draws))
			}
		}
	}
}

// The last birth that there may be.
func TestPlantLastBirth(t *testing.T) {
	w := booted(t, 4, 1)
	for birth := range 64 {
		w.does(api.CodeOK, 0, api.CallSpace, 2, 1)
		if birth == 63 {
			break
		}
		for _, call := range [][]uint32{{api.CallStop, 2}, {api.CallRemove, 1}, {api.CallRemove, 2}} {
			w.does(api.CodeOK, 0, call...)
		}
	}
	w.held(63)
	p, e := w.plant(63, 8, []uint32{1, 2})
	if e != api.OK || len(p.Config().Streams) != 64 {
		t.Errorf("P25.6: %d", e)
	}
	w.plant(64, 8, nil)
	w.plant(62, 8, nil)
}

// The errors, in their order.
func TestPlantRefusals(t *testing.T) {
	w := chapter(t, true)
	many := make([]uint32, 4097)
	for _, birth := range []int{1, -1, 64, math.MaxInt} {
		if p, e := w.plant(birth, 1, many); p != nil || e != api.ErrNone {
			t.Errorf("P25.6: birth %d: %d", birth, e)
		}
	}
	if _, e := w.plant(0, 1, many); e != api.ErrConfig {
		t.Errorf("P25.6: 4097 draws: %d", e)
	}
	if _, e := w.plant(0, 1, many[:4096]); e != api.OK {
		t.Errorf("P25.6: 4096 draws: %d", e)
	}
	w.m.DB().Memory().Write(secure(7), 1023, 1)
	for _, x := range []struct {
		birth, draws int
		want         api.Errno
	}{{1, 4097, api.ErrNone}, {1, 0, api.ErrNone}, {0, 4097, api.ErrConfig}, {0, 4096, api.ErrBroken}, {0, 0, api.ErrBroken}} {
		if p, e := w.plant(x.birth, 1, many[:x.draws]); p != nil || e != x.want {
			t.Errorf("P25.6: of a broken state: birth %d, %d draws: %d; want %d", x.birth, x.draws, e, x.want)
		}
	}
}

// A state that is broken in a word that planting would lay anew is broken all the same; so is one with a birth beyond all streams.
func TestPlantOfBrokenSecrets(t *testing.T) {
	for _, x := range []struct {
		page, off int
		v         uint32
	}{{0, entry.SpaceDraws, 4097}, {0, entry.SpaceDraws, math.MaxUint32}, {4, 17, 3}, {4, 17, 8}, {4, 18, 1}} {
		w := chapter(t, true)
		w.m.DB().Memory().Write(secure(x.page), x.off, x.v)
		if clause, _ := valid.Broken(w.m.DB()); clause == 0 {
			t.Fatalf("the word %d of page %d may be %d", x.off, x.page, x.v)
		}
		if p, e := w.plant(0, 1, nil); p != nil || e != api.ErrBroken {
			t.Errorf("P25.6: the word %d of page %d is %d: %d", x.off, x.page, x.v, e)
		}
	}
	for _, birth := range []int{1, 63, 64, 1 << 20, math.MaxUint32} {
		w := chapter(t, true)
		w.m.DB().Memory().Write(secure(0), entry.SpaceBirth, uint32(birth))
		w.held(birth)
		w.held(0)
		if p, e := w.plant(birth, 1, nil); p != nil || e != api.ErrBroken {
			t.Errorf("P25.6: of a birth %d that never was: %d", birth, e)
		}
	}
}

// Where nothing but the number of draws is secret, that alone is planted; a thread that isn't interrupted has no secret that is planted.
func TestPlantOfLittle(t *testing.T) {
	w := chapter(t, false)
	p, _ := w.plant(0, 1, nil)
	for off := range 1024 {
		if got, was := peek(p.DB(), 4, off), peek(w.m.DB(), 4, off); got != was {
			t.Errorf("P25.6: the word %d of a thread that isn't interrupted: %#x; it was %#x", off, got, was)
		}
	}
	bare := booted(t, 3, 1)
	bare.does(api.CodeOK, 0, api.CallSpace, 2, 0)
	p, _ = bare.plant(0, 77, []uint32{1})
	if part := view.Part(view.Of(bare.m, -1), view.Of(p, -1)); part != "page 2 word 2" {
		t.Errorf("P25.6: %q", part)
	}
}

// A stopped enclave's secrets are planted too.
func TestPlantStopped(t *testing.T) {
	w := town(t)
	p, e := w.plant(3, 9, nil)
	if e != api.OK || peek(p.DB(), 21, 0) == peek(w.m.DB(), 21, 0) || peek(p.DB(), 19, 5) == peek(w.m.DB(), 19, 5) {
		t.Errorf("P25.6: %d", e)
	}
}

// From the planting on the two machines have nothing to do with one another.
func TestPlantedGoesItsOwnWay(t *testing.T) {
	w := town(t)
	p, _ := w.plant(4, 3, []uint32{1, 2, 3})
	w.unchanged("what the planted machine does", func() {
		p.Do(api.CallResume, 17, 0, 0, 0, 100)
		p.Do(api.CallStop, 9, 0, 0, 0, 0)
		p.Do(api.CallRemove, 9, 0, 0, 0, 0)
		p.Write(3, 3, 3)
		p.SetRegister(9, 9)
	})
	other := world{t, p, w.seen}
	other.unchanged("what the machine does", func() {
		w.m.Do(api.CallStop, 18, 0, 0, 0, 0)
		w.m.Do(api.CallRemove, 16, 0, 0, 0, 0)
		w.m.Write(4, 4, 4)
		w.m.SetRegister(8, 8)
	})
}

// What the planted machine draws are the draws that it was given.
func TestPlantedDraws(t *testing.T) {
	w := booted(t, 8, 2)
	w.lay(0, "svc 6\nmov r0 r1\nsvc 0")
	for _, call := range [][]uint32{{api.CallSpace, 0, 1}, {api.CallTable, 0, 2, 0}, {api.CallThread, 0, 4, 0x1000}} {
		w.does(api.CodeOK, 0, call...)
	}
	// A page that may be executed and that no planting changes is an insecure one, which can't be: so the code is laid anew behind the planting.
	w.does(api.CodeOK, 0, api.CallData, 0, 3, 0x1005, 0)
	w.does(api.CodeOK, 0, api.CallFinal, 0)
	stream := make([]uint32, 4096)
	for k := range stream {
		stream[k] = uint32(k) + 1000
	}
	p, _ := w.plant(0, 6, stream)
	for off := range 1024 {
		p.DB().Memory().Write(secure(3), off, peek(w.m.DB(), 3, off))
	}
	taken := peek(p.DB(), 0, 2)
	if code, value := p.Do(api.CallEnter, 4, 0, 0, 0, 100); code != api.CodeOK || value != taken+1000 {
		t.Errorf("P25.6: a draw behind %d of them: %d, %d", taken, code, value)
	}
	if value := w.does(api.CodeOK, 100, api.CallEnter, 4); value != 0 {
		t.Errorf("P25.6: the machine that was planted from draws %d", value)
	}
}
