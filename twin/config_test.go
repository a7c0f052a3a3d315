package twin_test

import (
	"slices"
	"testing"

	"warden/api"
	"warden/monitor"
	"warden/twin"
)

// bare: a machine that has just booted.
func bare(t *testing.T, secure, insecure int, seed [8]uint32, streams ...[]uint32) *monitor.Monitor {
	t.Helper()
	m, e := monitor.New(monitor.Config{Secure: secure, Insecure: insecure, Seed: seed, Streams: streams})
	if e != api.OK {
		t.Fatalf("monitor.New: %d", e)
	}
	return m
}

func TestOtherPagesAndSeeds(t *testing.T) {
	w := booted(t, 3, 2)
	for _, c := range [][2]int{{2, 2}, {4, 2}, {3, 1}, {3, 3}, {2, 3}, {64, 64}} {
		for birth := -1; birth < 2; birth++ {
			if r, e := w.held(bare(t, c[0], c[1], seed()), birth, []twin.Step{called(1)}); r != (twin.Report{}) || e != api.ErrConfig {
				t.Errorf("P26.3: %v pages: %+v, %d", c, r, e)
			}
		}
	}
	for word := range 8 {
		for _, bit := range []int{0, 15, 31} {
			s := seed()
			s[word] ^= 1 << bit
			if _, e := w.held(bare(t, 3, 2, s), 0, nil); e != api.ErrConfig {
				t.Errorf("P26.3: another seed: %d", e)
			}
		}
	}
	if r, e := w.held(bare(t, 3, 2, seed()), 0, []twin.Step{called(1)}); r != through(1) || e != api.OK {
		t.Errorf("P26.3: one configuration: %+v, %d", r, e)
	}
}

// Two lists of streams, and the births for which they are one.
func TestStreams(t *testing.T) {
	every := []int{-2, -1, 0, 1, 2, 3, 4, 62, 63, 64, 1 << 40}
	tail := func(n int, last ...uint32) [][]uint32 {
		streams := make([][]uint32, n)
		streams[n-1] = last
		return streams
	}
	for _, c := range []struct {
		a, b [][]uint32
		one  []int
	}{
		{nil, nil, every},
		{nil, [][]uint32{{}, nil, {}}, every},
		{[][]uint32{{1}, {2}}, [][]uint32{{1}, {2}}, every},
		{[][]uint32{{1}, {2}}, [][]uint32{{1}, {2}, {}}, every},
		{[][]uint32{{1}, {2}}, [][]uint32{{9}, {2}}, []int{0}},
		{[][]uint32{{1}, {2}}, [][]uint32{{1}, {9}}, []int{1}},
		{[][]uint32{{1}, {2}}, [][]uint32{{9}, {9}}, nil},
		{[][]uint32{{1}, {2}}, [][]uint32{{1}}, []int{1}},
		{[][]uint32{{1}, {2}}, nil, nil},
		{[][]uint32{{1}}, nil, []int{0}},
		{[][]uint32{{0}}, nil, []int{0}},
		{[][]uint32{{}, {0}}, [][]uint32{{}}, []int{1}},
		{[][]uint32{{1, 2}}, [][]uint32{{1, 2, 0}}, []int{0}},
		{[][]uint32{{1, 2}}, [][]uint32{{2, 1}}, []int{0}},
		{[][]uint32{{1}, {2}, {3}}, [][]uint32{{1}, {2}, {3, 4, 5}}, []int{2}},
		{[][]uint32{{1}, {2}, {3}}, [][]uint32{{1}, {}, {3}}, []int{1}},
		{[][]uint32{{}, {1}}, [][]uint32{{1}, {}}, nil},
		{tail(64, 7), nil, []int{63}},
		{tail(64, 7), tail(64, 8), []int{63}},
		{tail(64, 7), tail(63, 7), nil},
		{tail(64, make([]uint32, 4096)...), tail(64, make([]uint32, 4095)...), []int{63}},
	} {
		w := booted(t, 2, 1, c.a...)
		n := booted(t, 2, 1, c.b...)
		for _, birth := range every {
			want := api.ErrConfig
			if slices.Contains(c.one, birth) {
				want = api.OK
			}
			if _, e := w.held(n.m, birth, nil); e != want {
				t.Errorf("P26.3: the streams %v and %v, birth %d: %d; want %d", c.a, c.b, birth, e, want)
			}
			if _, e := n.held(w.m, birth, nil); e != want {
				t.Errorf("P26.3: the streams %v and %v, birth %d: %d; want %d", c.b, c.a, birth, e, want)
			}
		}
	}
}
