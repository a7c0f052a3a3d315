package image_test

import (
	"math"
	"math/rand"
	"slices"
	"testing"

	"warden/image"
)

// wants: these parts are an image, or are none.
func wants(t *testing.T, is bool, parts ...image.Part) {
	t.Helper()
	if holds(t, parts) != is {
		t.Errorf("P23.1: %+.200v: the tests' own sentences and the chapter part", parts)
	}
}

// Every field of every kind at its limits, beyond them, and where it isn't used.
func TestFieldsOfParts(t *testing.T) {
	tables := []image.Part{table(0), table(1), table(255)}
	fields := []func(*image.Part){
		func(p *image.Part) { p.Index = 1 }, func(p *image.Part) { p.Index = -1 }, func(p *image.Part) { p.Index = math.MaxInt }, func(p *image.Part) { p.Index = math.MinInt },
		func(p *image.Part) { p.VA = 4 }, func(p *image.Part) { p.VA = 0x1000 }, func(p *image.Part) { p.VA = 0xffffffff },
		func(p *image.Part) { p.Write = true }, func(p *image.Part) { p.Exec = true }, func(p *image.Part) { p.Write, p.Exec = true, true },
		func(p *image.Part) { p.Words = []uint32{0} }, func(p *image.Part) { p.Words = make([]uint32, 1024) }, func(p *image.Part) { p.Words = make([]uint32, 1025) }, func(p *image.Part) { p.Words = []uint32{} },
		func(*image.Part) {},
	}
	taken := map[image.Kind]int{}
	for kind := image.Kind(-2); kind <= 8; kind++ {
		for _, one := range fields {
			for _, other := range fields {
				p := image.Part{Kind: kind}
				if kind == image.Table {
					p.Index = 7
				}
				one(&p)
				other(&p)
				if holds(t, append(slices.Clone(tables), p)) {
					taken[kind]++
				}
			}
		}
	}
	for kind := image.Kind(-2); kind <= 8; kind++ {
		if is := kind >= image.Table && kind <= image.Spare; is != (taken[kind] > 0) {
			t.Errorf("P23.1: of the kind %d %d parts were taken", kind, taken[kind])
		}
	}
	for _, kind := range []image.Kind{math.MaxInt, math.MinInt, 256 + image.Table, 1<<32 + image.Spare} {
		wants(t, false, image.Part{Kind: kind})
	}
}

func TestIndicesAndAddresses(t *testing.T) {
	for index := range 256 {
		wants(t, true, table(index))
		va := uint32(index) << 22
		wants(t, true, table(index), data(va, "r"), share(va+0x3ff000, "rw"))
		wants(t, false, table((index+1)%256), data(va, "r"))
		wants(t, false, table((index+255)%256), share(va+0x3ff000, "r"))
	}
	for _, index := range []int{-1, 256, 257, 512, math.MaxInt, math.MinInt, 1 << 32, -256} {
		wants(t, false, table(index))
	}
	for bit := range 32 {
		va := uint32(1) << bit
		wants(t, bit >= 12 && bit < 30, table(int(va>>22)%256), data(va, "rwx"))
		wants(t, true, thread(va), thread(va))
	}
	wants(t, true, thread(0), thread(math.MaxUint32))
}

func TestTablesStandAhead(t *testing.T) {
	wants(t, false, data(0, "r"), table(0))
	wants(t, false, share(0, "r"), table(0))
	wants(t, false, table(1), data(0, "r"), table(0))
	wants(t, true, thread(0), spare(), table(0), share(0, "r"), table(1), data(0x400000, "r"))
	wants(t, false, table(0), table(0))
	wants(t, false, table(0), table(1), spare(), table(0))
}

func TestAddressesOnce(t *testing.T) {
	for _, a := range []image.Part{data(0x1000, "r"), data(0x1000, "rwx", 1), share(0x1000, "r"), share(0x1000, "rw")} {
		for _, b := range []image.Part{data(0x1000, "r"), data(0x1000, "rx", 1), share(0x1000, "r"), share(0x1000, "rw")} {
			wants(t, false, table(0), a, b)
			wants(t, false, table(0), a, table(1), spare(), data(0x401000, "r"), b)
			b.VA = 0x2000
			wants(t, true, table(0), a, b)
			b.VA = 0x401000
			wants(t, true, table(0), table(1), a, b)
		}
	}
	wants(t, true, table(0), thread(0x1000), thread(0x1000), data(0x1000, "r"))
}

// pages: so many shares or data pages, each at an address of its own.
func pages(n int, from uint32, one func(va uint32) image.Part) []image.Part {
	var parts []image.Part
	for k := range n {
		parts = append(parts, one(from+uint32(k)<<12))
	}
	return parts
}

func TestHowMany(t *testing.T) {
	shared := func(va uint32) image.Part { return share(va, "rw") }
	filled := func(va uint32) image.Part { return data(va, "r", 7, 7, 7, 7) }
	for n := 61; n <= 64; n++ {
		wants(t, n <= 62, slices.Repeat([]image.Part{spare()}, n)...)
		wants(t, n <= 62, slices.Repeat([]image.Part{thread(1)}, n)...)
		wants(t, n < 62, append([]image.Part{table(0)}, pages(n, 0, filled)...)...)
		wants(t, n <= 63, append([]image.Part{table(0)}, pages(n, 0, shared)...)...)
		var tables []image.Part
		for index := range n {
			tables = append(tables, table(index))
		}
		wants(t, n <= 62, tables...)
	}
	most := append([]image.Part{table(0)}, pages(63, 0, shared)...)
	most = append(append(most, pages(30, 0x100000, filled)...), slices.Repeat([]image.Part{spare()}, 31)...)
	wants(t, true, most...)
	wants(t, false, append(slices.Clone(most), spare())...)
	wants(t, false, append(slices.Clone(most), table(1))...)
	wants(t, false, append(slices.Clone(most), thread(0))...)
	wants(t, false, append(slices.Clone(most), share(0x200000, "r"))...)
	wants(t, false, append(slices.Clone(most), data(0x200000, "r"))...)
	wants(t, false, slices.Repeat([]image.Part{spare()}, 1<<20)...)
}

// Parts by chance, of which some have one field that is another one.
func TestWildImages(t *testing.T) {
	r := rand.New(rand.NewSource(231))
	var images, none int
	for range 4000 {
		parts := some(r, 12)
		if len(parts) > 0 && r.Intn(2) == 0 {
			p := &parts[r.Intn(len(parts))]
			switch r.Intn(6) {
			case 0:
				p.Kind = image.Kind(r.Intn(8) - 1)
			case 1:
				p.Index = r.Intn(4) - 1
			case 2:
				p.VA ^= 1 << r.Intn(32)
			case 3:
				p.Write = !p.Write
			case 4:
				p.Exec = !p.Exec
			case 5:
				parts = append(parts, *p)
			}
		}
		if holds(t, parts) {
			images++
		} else {
			none++
		}
	}
	if images < 1000 || none < 500 {
		t.Errorf("%d images, %d none: not enough of both", images, none)
	}
}
