package svc_test

import (
	"math"
	"slices"
	"testing"

	"warden/api"
	"warden/entry"
	"warden/svc"
)

func TestCost(t *testing.T) {
	for n := uint32(1); n <= 5; n++ {
		if got := svc.Cost(n); got != 64 {
			t.Errorf("P19.1: Cost(%d) = %d", n, got)
		}
		for _, beside := range []uint32{n + 5, n + 64, n + 1<<8, n + 1<<16, n << 16, n + 1<<31, -n} {
			if got := svc.Cost(beside); got != 1 {
				t.Errorf("P19.1: Cost(%d) = %d", beside, got)
			}
		}
	}
	for n := uint32(6); n < 70000; n++ {
		if svc.Cost(n) != 1 {
			t.Errorf("P19.1: Cost(%d) = %d", n, svc.Cost(n))
		}
	}
	if svc.Cost(0) != 1 {
		t.Errorf("P19.1: Cost(0) = %d", svc.Cost(0))
	}
}

func TestDraw(t *testing.T) {
	streams := [][]uint32{{7, 9}, nil, {}, {0xffffffff, 0, 5}}
	wild := []int{math.MinInt, -1 << 32, math.MinInt32, -2, -1, 4, 5, 64, 4096, math.MaxInt32, 1 << 32, 1<<32 + 1, math.MaxInt}
	for birth := range 5 {
		for taken := range 5 {
			want := drawn(streams, uint32(birth), uint32(taken))
			if got := svc.Draw(streams, birth, taken); got != want {
				t.Errorf("P19.2: Draw(%d, %d) = %d; want %d", birth, taken, got, want)
			}
		}
	}
	if svc.Draw(streams, 3, 0) != 0xffffffff || svc.Draw(streams, 3, 2) != 5 {
		t.Error("P19.2: the draws of the last stream are others")
	}
	for _, number := range wild {
		for small := range 4 {
			if svc.Draw(streams, number, small) != 0 || svc.Draw(streams, small, number) != 0 {
				t.Errorf("P19.2: there is a draw %d, or a stream of that number", number)
			}
		}
		if svc.Draw(nil, number, 0) != 0 || svc.Draw(nil, 0, number) != 0 {
			t.Error("P19.2: there is a draw of no stream")
		}
	}
}

// A stream has as many draws as it is long, beyond 4096 too; a capacity is no length.
func TestDrawOfLongStreams(t *testing.T) {
	long := make([]uint32, 5000, 6000)
	for i := range long[:6000] {
		long[:6000][i] = uint32(i) + 1
	}
	streams := [][]uint32{long, {3}}[:1]
	for taken, want := range map[int]uint32{0: 1, 4095: 4096, 4096: 4097, 4999: 5000, 5000: 0, 5999: 0} {
		if got := svc.Draw(streams, 0, taken); got != want {
			t.Errorf("P19.2: draw %d is %d; want %d", taken, got, want)
		}
	}
	if svc.Draw(streams, 1, 0) != 0 {
		t.Error("P19.2: a stream behind the list's length is drawn from")
	}
}

// drawsOf: a draw of a space whose page has that birth and these draws.
func (w world) drawsOf(birth, draws uint32) uint32 {
	w.Helper()
	w.lay(0, entry.SpaceBirth, birth, draws)
	return w.wants(api.CodeOK, 5, api.SvcRandom, 1, 2).R[1]
}

// Whatever words stand in the space's page: they are looked up as they are, and the count ends at 4096.
func TestDrawsByAnyWords(t *testing.T) {
	w := examples(t)
	long := make([]uint32, 4200)
	for i := range long {
		long[i] = uint32(i) + 1000
	}
	w.streams = [][]uint32{{5}, long, {6, 7}}
	for draws, behind := range map[uint32]uint32{0: 1, 1: 2, 4094: 4095, 4095: 4096, 4096: 4096, 4097: 4097, 4199: 4199, 4200: 4200, 0x7fffffff: 0x7fffffff, 0x80000000: 0x80000000, 0xffffffff: 0xffffffff} {
		want := uint32(0)
		if draws < 4200 {
			want = draws + 1000
		}
		if got := w.drawsOf(1, draws); got != want {
			t.Errorf("P19.3: draw %d is %d; want %d", draws, got, want)
		}
		w.wordIs(0, entry.SpaceDraws, behind)
	}
	for _, birth := range []uint32{3, 64, 0x80000000, 0xffffffff, 0x10001} {
		if got := w.drawsOf(birth, 0); got != 0 {
			t.Errorf("P19.3: the birth %#x draws %d", birth, got)
		}
	}
	if w.drawsOf(0, 0) != 5 || w.drawsOf(2, 1) != 7 {
		t.Error("P19.3: draws of another stream")
	}
}

// All draws of the longest stream come, each once, in their order; each space has its own.
func TestAllDraws(t *testing.T) {
	w := examples(t)
	stream := make([]uint32, api.MaxDraws)
	for i := range stream {
		stream[i] = uint32(i) * 0x9e3779b1
	}
	var got []uint32
	for range stream {
		r := done(w.d, ask{bootKey(), [][]uint32{stream}, 5, api.SvcRandom, file(1, 2)})
		got = append(got, r.file.R[1])
	}
	if !slices.Equal(got, stream) {
		t.Error("P19.3: the draws aren't the stream's")
	}
	w.streams = [][]uint32{stream}
	w.wants(api.CodeOK, 5, api.SvcRandom, 1, 2)
	w.wordIs(0, entry.SpaceDraws, 4096)
}

// Streams that are handed in stay as they are, their spare room too, and are not kept.
func TestStreamsStay(t *testing.T) {
	w := examples(t)
	room := []uint32{1, 2, 3, 4}
	list := [][]uint32{room[:2], {8}, {9}}
	streams := list[:1]
	for n := range uint32(9) {
		for range 5 {
			done(w.d, ask{bootKey(), streams, 5, n, file(4, 0x5003)})
		}
		svc.Draw(streams, 0, int(n))
	}
	if !slices.Equal(room, []uint32{1, 2, 3, 4}) || len(list[0]) != 2 || !slices.Equal(list[1], []uint32{8}) || !slices.Equal(list[2], []uint32{9}) {
		t.Errorf("P19.6: the streams are %v, %v now", list, room)
	}
	w.lay(0, entry.SpaceDraws, 0)
	room[0] = 77
	if r := done(w.d, ask{bootKey(), streams, 5, api.SvcRandom, file(1, 2)}); r.file.R[1] != 77 {
		t.Errorf("P19.6: the draw is %d, of streams that were handed in earlier", r.file.R[1])
	}
}
