package model_test

import (
	"math"
	"testing"

	"warden/api"
	"warden/model"
	"warden/monitor"
)

// streams: so many, the last one that long.
func streams(n, long int) [][]uint32 {
	all := make([][]uint32, n)
	if n > 0 {
		all[n-1] = make([]uint32, long)
	}
	return all
}

// configurations: those at the bounds, and those one beyond.
func configurations() (all []monitor.Config) {
	for _, n := range []int{math.MinInt, -1, 0, 1, 2, 63, 64, 65, 1 << 32, 1<<32 + 1, math.MaxInt} {
		all = append(all, monitor.Config{Secure: n, Insecure: 3}, monitor.Config{Secure: 3, Insecure: n}, monitor.Config{Secure: n, Insecure: n})
	}
	for _, s := range [][][]uint32{nil, {}, streams(64, 0), streams(64, 4096), streams(65, 0), streams(65, 1), streams(64, 4097), append(streams(1, 4097), streams(1, 4096)...), append(streams(20, 4097), streams(30, 4096)...)} {
		all = append(all, monitor.Config{Secure: 2, Insecure: 1, Streams: s})
	}
	return append(all, monitor.Config{}, monitor.Config{Secure: 65, Insecure: 65, Streams: streams(65, 4097)})
}

// There is a model just of what there is a machine of, and it is the model of that machine.
func TestNew(t *testing.T) {
	refused := 0
	for i, c := range configurations() {
		m, want := monitor.New(c)
		n, e := model.New(c)
		if e != want || (n == nil) != (m == nil) {
			t.Errorf("P22.1: %d: New of %d and %d pages, %d streams: %v, %d; want %d", i, c.Secure, c.Insecure, len(c.Streams), n, e, want)
		}
		if want != api.OK {
			refused++
			continue
		}
		w := world{t, m, n, map[called]int{}}
		w.same("P22.1: New")
		w.do(0, 2)
		w.do(0, 3)
		w.do(0, 10, 0, uint32(c.Secure)-1)
	}
	if refused < 20 || refused > len(configurations())-10 {
		t.Errorf("%d of %d are refused", refused, len(configurations()))
	}
}

// draws: the program in a page of its own tells one draw after the other.
func (w world) draws(t *testing.T, want ...uint32) {
	t.Helper()
	for _, v := range want {
		if code, value := w.n.Do(17, 5, 0, 0, 0, 100); code != api.CodeOK || value != v {
			t.Errorf("P22.2: a draw: %d, %d; want %d", code, value, v)
		}
	}
}

// What was handed in is not kept: whoever changes it changes no draw, nor does a model change it.
func TestStreamsAreTheModelsOwn(t *testing.T) {
	c := config(12, 2)
	c.Streams = [][]uint32{append([]uint32{77, 78}, 0xa, 0xb)[:2], {5}}
	w := booted(t, c)
	w.raise(0, "svc 6\nmov r0 r1\nsvc 0")
	if whole := c.Streams[0][:4]; whole[0] != 77 || whole[1] != 78 || whole[2] != 0xa || whole[3] != 0xb {
		t.Errorf("rule 5: what was handed in is %v now", whole)
	}
	of := read(t, w.m)
	c.Streams[0][0], c.Streams[0][1] = 1, 2
	c.Streams[1] = nil
	told := w.m.Config()
	told.Streams[0][0] = 3
	w.draws(t, 77, 78, 0, 0)
	w.n = of
	w.draws(t, 77, 78, 0, 0)
}
