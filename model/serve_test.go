package model_test

import (
	"fmt"
	"testing"

	"warden/api"
	"warden/attest"
	"warden/entry"
	"warden/monitor"
	"warden/regs"
)

// asked: a thread whose file is f stands ahead of an svc of that number, with just that fuel; the file behind it.
func (w world) asked(number uint32, fuel int, f regs.File) (world, regs.File) {
	w.Helper()
	d := w.m.DB().Clone()
	d.Memory().Write(secure(3), 0, 24<<26|number)
	f.PC = 0x1000
	w.m, _ = monitor.Over(w.m.Config(), d, w.m.Registers())
	w = w.stand(f)
	w.do(fuel, 18, 5)
	u, e := w.n.Thread(5)
	if e != api.OK {
		w.Fatal(e)
	}
	return w, u.Saved
}

func registers(words ...uint32) regs.File {
	var f regs.File
	copy(f.R[:], words)
	return f
}

// serving: the enclave of raise, whose svc stands at 0x1000; besides its table at index 0 it has one at index 2 that is made of page 8.
func serving(t *testing.T) world {
	t.Helper()
	w := booted(t, config(13, 2))
	w.raise(0, "svc 5\nsvc 0")
	w.takes([]uint32{10, 9, 10}, []uint32{15, 9, 11}, []uint32{12, 9, 12, 0})
	w, f := w.asked(5, 64, registers(0, 8, 2))
	if s := w.space(0); f.R[0] != 0 || len(s.Tables) != 2 || s.Tables[1].Index != 2 || s.Tables[1].Page != 8 {
		t.Fatalf("P22.2: SvcTable: %+v, %+v", f, s)
	}
	return w
}

// Each number, at every choice of what r1 and r2 may be.
func TestEveryRefusalOfAThread(t *testing.T) {
	base := serving(t)
	pages := []uint32{0, 1, 2, 3, 4, 5, 7, 8, 9, 11, 12, 13, 64, 0x80000007, 0xffffffff}
	second := map[uint32][]uint32{
		3: {0x5003, 0x5007, 0x5001, 0x5002, 0x1003, 0x3003, 0x400001, 0x800001, 0x40000001, 0xffffffff, 0},
		4: {0x2003, 0x2001, 0x2007, 0x1007, 0x1003, 0x2002, 0x3003, 0x5003, 0x400001, 0x800003, 0x40002003, 0},
		5: {0, 1, 2, 3, 255, 256, 0x80000001, 0xffffffff},
	}
	codes := map[uint32]int{}
	for number, choices := range second {
		for _, page := range pages {
			for _, v := range choices {
				_, f := base.asked(number, 64, registers(9, page, v))
				codes[number<<8|f.R[0]]++
			}
		}
	}
	for number, wants := range map[uint32][]api.Code{
		3: {api.CodeOK, api.CodeSpare, api.CodeMapping, api.CodeTable, api.CodeAddress},
		4: {api.CodeOK, api.CodeData, api.CodeMapping, api.CodeTable, api.CodeAddress},
		5: {api.CodeOK, api.CodeSpare, api.CodeArg, api.CodeAddress},
	} {
		for _, code := range wants {
			if codes[number<<8|uint32(code)] == 0 {
				t.Errorf("svc %d never answers %d", number, code)
			}
		}
	}
}

// A call that costs more than is left isn't done: the thread stands at its svc. One that costs just that is.
func TestCosts(t *testing.T) {
	base := serving(t)
	for number := range uint32(10) {
		dear := number >= 1 && number <= 5
		for _, fuel := range []int{1, 2, 63, 64, 65} {
			w, f := base.asked(number, fuel, registers(9, 7, 0x5003))
			u, _ := w.n.Thread(5)
			done := !dear || fuel >= 64
			if number != 0 && (u.Entered && f.PC == 0x1000) == done && fuel < 65 {
				t.Errorf("P22.2: svc %d with the fuel %d: %+v", number, fuel, u)
			}
		}
	}
}

func TestMapAndUnmap(t *testing.T) {
	w := serving(t)
	w, f := w.asked(3, 64, registers(9, 7, 0x805003))
	if p, _ := w.n.Page(7); f.R[0] != 0 || p.Type != entry.Data || len(p.Words) != 1024 || p.Owner != 0 {
		t.Fatalf("P22.2: SvcMap: %+v, a %s", f, entry.TypeName(p.Type))
	}
	w.m.DB().Memory().Write(secure(7), 5, 6)
	w, f = w.asked(4, 64, registers(9, 7, 0x805003))
	if p, _ := w.n.Page(7); f.R[0] != 0 || p.Type != entry.Spare || len(p.Words) != 0 {
		t.Fatalf("P22.2: SvcUnmap: %+v, a %s", f, entry.TypeName(p.Type))
	}
	w, f = w.asked(3, 64, registers(9, 7, 0x2fff007))
	if p, _ := w.n.Page(7); f.R[0] != uint32(api.CodeTable) || p.Type != entry.Spare {
		t.Fatalf("P22.2: SvcMap: %+v", f)
	}
	w, _ = w.asked(3, 64, registers(9, 7, 0x6001))
	if p, _ := w.n.Page(7); p.Words[5] != 0 {
		t.Error("P22.2: SvcMap: the page isn't wiped")
	}
}

// The tag is that of the boot key, over the measurement and the eight words; and it is verified wherever it may be read.
func TestAttestAndVerify(t *testing.T) {
	w := serving(t)
	data := [8]uint32{1, 0x80000000, 3, 4, 5, 6, 7, 0xffffffff}
	w, f := w.asked(1, 64, registers(append([]uint32{9}, data[:]...)...))
	m := w.space(0).Measurement
	tag := attest.Tag(attest.Key(seed()), m, data)
	if f.R[0] != 0 || [8]uint32(f.R[1:9]) != tag || f.R[9] != 0 {
		t.Fatalf("P22.2: SvcAttest: %#x", f.R)
	}
	quote := append(append(append([]uint32{}, m[:]...), data[:]...), tag[:]...)
	for _, va := range []uint32{0x2000, 0x2004, 0x2fa0, 0x2fa4, 0x3000, 0x3fa0, 0x3fa4, 0x4fa0, 0x4fa4, 0x1f00, 0x2002, 0x1fc0, 0x5000, 0xfffffff0, 0x40002000, 0} {
		for _, turned := range []int{-1, 0, 7, 8, 15, 16, 23} {
			d := w.m.DB().Clone()
			for i, v := range quote {
				if i == turned {
					v ^= 1 << (i % 32)
				}
				at := va + uint32(4*i)
				switch at >> 12 {
				case 2:
					d.Memory().Write(secure(4), int(at%4096/4), v)
				case 3:
					d.Memory().Write(insecure(1), int(at%4096/4), v)
				case 4:
					d.Memory().Write(insecure(0), int(at%4096/4), v)
				}
			}
			w.m, _ = monitor.Over(w.m.Config(), d, w.m.Registers())
			_, f := w.asked(2, 64, registers(9, va, 7))
			want := registers(0, 1, 7)
			switch {
			case va%4 != 0 || va > 0x4fa0 || va < 0x1000:
				want = registers(uint32(api.CodeMemory), va, 7)
			case turned >= 0 || va < 0x2000:
				want = registers(0, 0, 7)
			}
			if f.R != want.R {
				t.Errorf("P22.2: SvcVerify at %#x, the word %d turned: %#x; want %#x", va, turned, f.R[:3], want.R[:3])
			}
		}
	}
}

// Draws are those of the birth's stream, then 0; they are counted up to as many as a stream may have.
func TestDraws(t *testing.T) {
	c := config(20, 2)
	c.Streams = [][]uint32{{71, 72}, {}, make([]uint32, 4096)}
	c.Streams[2][4095] = 99
	w := booted(t, c)
	w.takes([]uint32{10, 18, 19})
	w.raise(0, "svc 6\nmov r0 r1\nsvc 0")
	w.raise(9, "svc 6\nmov r0 r1\nsvc 0")
	for _, x := range []struct{ taken, draw, then uint32 }{{0, 0, 1}, {4094, 0, 4095}, {4095, 99, 4096}, {4096, 0, 4096}} {
		d := w.m.DB().Clone()
		d.Memory().Write(secure(9), 2, x.taken)
		other := w.over(d)
		other.wants(api.CodeOK, x.draw, 100, 17, 14)
		if s := other.space(9); s.Draws != int(x.then) || s.Birth != 2 {
			t.Errorf("P22.2: behind the draw %d: %+v", x.taken, s)
		}
	}
	for birth, draws := range [][]uint32{{71, 72, 0, 0}, {0, 0}} {
		d := w.m.DB().Clone()
		d.Memory().Write(secure(0), 1, uint32(birth))
		d.Memory().Write(secure(18), 1, uint32(1-birth))
		other := w.over(d)
		for _, v := range draws {
			other.wants(api.CodeOK, v, 100, 17, 5)
		}
	}
	d := w.m.DB().Clone()
	d.Memory().Write(secure(0), 1, 63)
	other := w.over(births(64)(d))
	other.wants(api.CodeOK, 0, 100, 17, 5)
}

// The own measurement; numbers that are no call; an exit, of which nothing is left.
func TestSelfAndExit(t *testing.T) {
	w := serving(t)
	_, f := w.asked(7, 1, registers(9, 1, 2, 3, 4, 5, 6, 7, 8, 9))
	if m := w.space(0).Measurement; f.R[0] != 0 || [8]uint32(f.R[1:9]) != m || f.R[9] != 9 {
		t.Errorf("P22.2: SvcSelf: %#x", f.R)
	}
	for _, number := range []uint32{8, 9, 64, 255, 256, 65535} {
		_, f := w.asked(number, 1, registers(9, 1, 2))
		if f.R != registers(uint32(api.CodeCall), 1, 2).R || f.PC != 0x1004 {
			t.Errorf("P22.2: svc %d: %+v", number, f)
		}
	}
	w, f = w.asked(0, 1, registers(42, 1, 2))
	if u, _ := w.n.Thread(5); f != (regs.File{}) || u.Entered || w.n.Registers()[1] != 42 {
		t.Errorf("P22.4: behind an exit: %+v, %v", u, w.n.Registers())
	}
}

// Threads that run their own tables, pages and words away from under themselves.
func TestThreadsThatCutTheirOwnWay(t *testing.T) {
	for i, source := range []string{
		"movi r1 3\nmovi r2 0x1007\nsvc 4\nsvc 0",
		"movi r1 4\nmovi r2 0x2003\nsvc 4\nmovi r3 0x2000\nldr r0 r3 0\nsvc 0",
		"movi r3 0x1000\nmovi r0 0\nstr r0 r3 12\nsvc 0",
		"movi r1 7\nmovi r2 0x5007\nsvc 3\nmovi r3 0x5000\nmovi r4 0\nmovt r4 0x6000\nstr r4 r3 0\nbr r3",
		"movi r1 7\nmovi r2 9\nsvc 5\nmovi r1 8\nli r2 0x2400007\nsvc 3\nmov r5 r0\nli r3 0x2400000\nstr r3 r3 4\nldr r0 r3 4\nsvc 0",
		"movi r3 0x3000\nstr r3 r3 0\nldr r0 r3 0\nsvc 0",
		"movi r3 0x4000\nldr r0 r3 0\nstr r3 r3 0",
		"bl 1\nsvc 0\nmov r0 r14\nbr r14",
	} {
		t.Run(fmt.Sprint(i), func(t *testing.T) {
			w := booted(t, config(12, 2))
			w.raise(0, source)
			base := w
			for _, fuel := range []int{1000, 70, 130, 5} {
				w = base.over(base.m.DB().Clone())
				code, _ := w.do(fuel, 17, 5, 1, 2, 3)
				for range 5 {
					if code == api.CodeInterrupted {
						code, _ = w.do(fuel, 18, 5)
					}
				}
			}
		})
	}
}
