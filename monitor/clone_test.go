package monitor_test

import (
	"testing"

	"warden/api"
	"warden/attest"
	"warden/mem"
	"warden/monitor"
	"warden/pagedb"
)

// like: both machines are the same in all that they tell.
func like(t *testing.T, what string, a, b *monitor.Monitor) {
	t.Helper()
	if a.Registers() != b.Registers() || a.Key() != b.Key() || a.Meter() != b.Meter() {
		t.Fatalf("%s: %#x, %#x, %d; the other %#x, %#x, %d", what, a.Registers(), a.Key(), a.Meter(), b.Registers(), b.Key(), b.Meter())
	}
	alike(t, what, a.DB(), b.DB())
}

// A clone is another machine like the first: each of the two goes its own way from then on, and both by the same sentences.
func TestClone(t *testing.T) {
	w := settled(t)
	w.set(17, 6, 0, 0, 0x3000, 1, 2, 3, 4, 5, 6, 7, 8, 9, 10)
	c := w.m.Clone()
	like(t, "P21.6: a clone", c, w.m)
	if c == w.m || c.DB() == w.m.DB() || c.DB().Memory() == w.m.DB().Memory() {
		t.Fatal("P21.6: a clone is the machine itself")
	}
	third := c.Clone()
	c.Write(0, 0, 5)
	c.SetRegister(14, 5)
	c.Do(19, 0, 0, 0, 0, 0)
	c.Do(20, 5, 0, 0, 0, 0)
	w.same("P21.6: what a clone does")
	like(t, "P21.6: a clone's clone", third, w.m)
	was := c.Clone()
	w.smc(1000)
	w.write(1, 1, 9)
	w.takes([]uint32{16, 9})
	like(t, "P21.6: what the other machine does", c, was)
}

// What a clone does with its draws is what the machine would have done.
func TestCloneGoesOn(t *testing.T) {
	w := of(t, 12, 2)
	w.raise(0, "svc 6\nmov r0 r1\nsvc 0")
	w.wants(api.CodeOK, 77, 100, 17, 5)
	w.m = w.m.Clone()
	w.same("P21.6: a clone")
	w.wants(api.CodeOK, 78, 100, 17, 5)
	w.wants(api.CodeOK, 0, 100, 17, 5)
}

// Of all these no call touches a word.
func TestLooksTouchNothing(t *testing.T) {
	w := settled(t)
	meter := w.m.Meter()
	if w.m.DB() != w.m.DB() || w.m.Key() != attest.Key(seed()) || w.m.Config().Secure != 14 || w.m.Config().Insecure != 2 || w.m.Config().Seed != seed() {
		t.Errorf("P21.6: %#x, %+v", w.m.Key(), w.m.Config())
	}
	w.m.Registers()
	w.m.SetRegister(3, w.m.Registers()[3])
	w.m.SetRegister(15, 3)
	w.m.Clone()
	monitor.Over(w.m.Config(), w.m.DB(), w.m.Registers())
	if w.m.Meter() != meter || w.m.DB().Memory().Meter() != meter {
		t.Errorf("P21.6: %d words are touched", w.m.Meter()-meter)
	}
	w.same("P21.6: looks")
}

// DB is the database itself: what is done there, the machine has, and the other way round.
func TestDBIsTheDatabaseItself(t *testing.T) {
	m := made(t, monitor.Config{Secure: 4, Insecure: 2})
	m.DB().Memory().Write(insecure(1), 7, 8)
	if v, _ := m.Read(1, 7); v != 8 || m.Meter() != 4098 {
		t.Errorf("P21.6: %d, %d", v, m.Meter())
	}
	m.Do(10, 3, 2, 0, 0, 0)
	if e, _ := m.DB().Entry(2); e.Owner != 3 || m.DB().Births() != 1 {
		t.Errorf("P21.6: the entry is %+v", e)
	}
}

// Two machines that were given the same do the same, in whichever order they are asked, and have nothing in common.
func TestMachinesAreApart(t *testing.T) {
	c := monitor.Config{Secure: 12, Insecure: 2, Seed: seed(), Streams: [][]uint32{{7, 8}}}
	one, two := booted(t, c), booted(t, c)
	one.raise(0, "svc 6\nmov r0 r1\nsvc 0")
	if two.m.DB().Free() != 12 {
		t.Fatal("P21.10: two machines have one database")
	}
	two.raise(0, "svc 6\nmov r0 r1\nsvc 0")
	one.wants(api.CodeOK, 7, 100, 17, 5)
	one.wants(api.CodeOK, 8, 100, 17, 5)
	two.wants(api.CodeOK, 7, 100, 17, 5)
	two.wants(api.CodeOK, 8, 100, 17, 5)
	like(t, "rule 6", one.m, two.m)
}

// Another machine over the same memory's clone has its own key: the seed's.
func TestKeyIsOfTheSeed(t *testing.T) {
	for i := range 8 {
		for bit := range 32 {
			s := seed()
			s[i] ^= 1 << bit
			memory, _ := mem.New(1, 1)
			m, _ := monitor.Over(monitor.Config{Secure: 1, Insecure: 1, Seed: s}, pagedb.New(memory), [15]uint32{})
			if m.Key() != attest.Key(s) || m.Key() == attest.Key(seed()) || m.Clone().Key() != m.Key() {
				t.Errorf("P21.6: of the seed %#x the key %#x", s, m.Key())
			}
		}
	}
}
