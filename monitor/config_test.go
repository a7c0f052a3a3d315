package monitor_test

import (
	"math"
	"slices"
	"testing"

	"warden/api"
	"warden/attest"
	"warden/mem"
	"warden/monitor"
	"warden/pagedb"
)

// may: a configuration, and whether there is a machine of it.
type may struct {
	c  monitor.Config
	be bool
}

// configurations: those at the bounds, and those one beyond.
func configurations() (all []may) {
	for _, n := range []int{math.MinInt, -1, 0, 1, 2, 63, 64, 65, 1 << 32, 1<<32 + 1, math.MaxInt} {
		so := n >= 1 && n <= 64
		all = append(all, may{monitor.Config{Secure: n, Insecure: 3}, so}, may{monitor.Config{Secure: 3, Insecure: n}, so}, may{monitor.Config{Secure: n, Insecure: n}, so})
	}
	of := func(all [][]uint32) monitor.Config { return monitor.Config{Secure: 2, Insecure: 1, Streams: all} }
	first, middle := streams(1, 4097), append(streams(20, 4097), streams(30, 4096)...)
	return append(all, may{of(nil), true}, may{of([][]uint32{}), true}, may{of(streams(64, 0)), true}, may{of(streams(64, 4096)), true}, may{of(streams(65, 0)), false},
		may{of(streams(65, 1)), false}, may{of(streams(64, 4097)), false}, may{of(append(first, streams(1, 4096)...)), false}, may{of(middle), false},
		may{monitor.Config{Secure: 65, Insecure: 65, Streams: streams(65, 4097)}, false}, may{monitor.Config{}, false})
}

func TestConfigurations(t *testing.T) {
	for i, x := range configurations() {
		m, e := monitor.New(x.c)
		if x.be != (m != nil) || x.be != (e == api.OK) || !x.be && e != api.ErrConfig {
			t.Errorf("P21.1: %d: New of %d and %d pages, %d streams: %v, %d", i, x.c.Secure, x.c.Insecure, len(x.c.Streams), m, e)
		}
		// Over a database of as many pages as there may be, so that the configuration alone is refused.
		memory, _ := mem.New(min(max(x.c.Secure, 1), 64), min(max(x.c.Insecure, 1), 64))
		m, e = monitor.Over(x.c, pagedb.New(memory), [15]uint32{})
		if x.be != (m != nil) || x.be != (e == api.OK) || !x.be && e != api.ErrConfig {
			t.Errorf("P21.2: %d: Over of %d and %d pages, %d streams: %v, %d", i, x.c.Secure, x.c.Insecure, len(x.c.Streams), m, e)
		}
	}
}

// Of every number of pages: all are there, zero and free, and have been wiped once.
func TestJustBooted(t *testing.T) {
	for n := range 64 {
		c := monitor.Config{Secure: n + 1, Insecure: 64 - n, Seed: [8]uint32{uint32(n), 9}}
		m := made(t, c)
		d := m.DB()
		if d.Pages() != n+1 || d.Free() != n+1 || d.Births() != 0 || d.Memory().Insecure() != 64-n {
			t.Errorf("P21.1: %d pages: %d, of which %d are free, %d births, %d insecure ones", n+1, d.Pages(), d.Free(), d.Births(), d.Memory().Insecure())
		}
		zero, _ := mem.New(n+1, 64-n)
		if !d.Memory().Same(zero) || m.Meter() != int64(1024*(n+1)) || m.Registers() != [15]uint32{} {
			t.Errorf("P21.1: %d pages: not zero; or the meter %d, the registers %v", n+1, m.Meter(), m.Registers())
		}
		if m.Key() != attest.Key(c.Seed) || m.Config().Seed != c.Seed {
			t.Errorf("P21.6: of the seed %v: the key %#x", m.Config().Seed, m.Key())
		}
	}
}

// roomy: streams with words in the spare room behind each of them.
func roomy() [][]uint32 {
	all := make([][]uint32, 0, 5)
	return append(all, append([]uint32{1, 2}, 0xa, 0xb)[:2], nil, append([]uint32{3}, 0xc)[:1])
}

// plainly: what the configuration of roomy streams says.
func plainly(c monitor.Config) bool {
	return c.Secure == 8 && c.Insecure == 2 && c.Seed == seed() && slices.EqualFunc(c.Streams, [][]uint32{{1, 2}, {}, {3}}, slices.Equal)
}

// spoil: every word that a list and its spare room hold is another one.
func spoil(all [][]uint32) {
	for i, stream := range all {
		stream = stream[:cap(stream)]
		for j := range stream {
			stream[j] ^= 0xffffffff
		}
		all[i] = nil
	}
	all = all[:cap(all)]
	for i := range all {
		all[i] = []uint32{6, 6, 6}
	}
}

// What was handed in, and what was told, may be changed by whoever has it: the machine's own stays.
func TestConfigIsTheMachinesOwn(t *testing.T) {
	memory, _ := mem.New(8, 2)
	given, lent := roomy(), roomy()
	booted := made(t, monitor.Config{Secure: 8, Insecure: 2, Seed: seed(), Streams: given})
	over, _ := monitor.Over(monitor.Config{Secure: 8, Insecure: 2, Seed: seed(), Streams: lent}, pagedb.New(memory), [15]uint32{})
	for _, all := range [][][]uint32{given, lent} {
		if whole := all[0][:4]; whole[2] != 0xa || whole[3] != 0xb || len(all) != 3 || all[2][:2][1] != 0xc || all[:4][3] != nil {
			t.Errorf("rule 5: what was handed in is %v now", all)
		}
		spoil(all)
	}
	for i, m := range []*monitor.Monitor{booted, over} {
		other := m.Clone()
		for range 3 {
			told := m.Config()
			if !plainly(told) || !plainly(other.Config()) {
				t.Fatalf("P21.6: %d: the configuration is %+v; the clone's %+v", i, told, other.Config())
			}
			spoil(told.Streams)
			spoil(other.Config().Streams)
		}
	}
}

// No two lists of one answer have room in common.
func TestStreamsOfOneAnswerAreApart(t *testing.T) {
	m := made(t, monitor.Config{Secure: 8, Insecure: 2, Seed: seed(), Streams: [][]uint32{{1, 2}, {}, {3}}})
	told := m.Config()
	for i := range told.Streams {
		_ = append(told.Streams[i], 9, 9, 9)
	}
	if !plainly(told) || !plainly(m.Config()) {
		t.Errorf("P21.10: a stream lies behind another one: %v", told.Streams)
	}
}

// One list as two streams: each has its draws, and neither the one that was handed in.
func TestOneListTwice(t *testing.T) {
	list := []uint32{4, 5}
	m := made(t, monitor.Config{Secure: 8, Insecure: 2, Streams: [][]uint32{list, list}})
	told := m.Config()
	told.Streams[0][0] = 9
	if list[0] != 4 || told.Streams[1][0] != 4 || m.Config().Streams[0][0] != 4 {
		t.Errorf("P21.10: %v, %v, %v", list, told.Streams, m.Config().Streams)
	}
}
