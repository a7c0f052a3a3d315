package svc_test

import (
	"testing"

	"warden/api"
	"warden/entry"
)

// quote: a measurement, eight words and the tag over them under the boot key.
func quote(measurement, data []uint32) []uint32 {
	key := bootKey()
	words := append(append([]uint32{}, measurement...), data...)
	return append(words, libraryTag(key[:], measurement, data)...)
}

func count(from uint32) (words []uint32) {
	for i := range uint32(8) {
		words = append(words, from+i)
	}
	return words
}

// at: the machine of two, with a right quote at an address of the first enclave's.
func at(t *testing.T, va uint32) world {
	t.Helper()
	w := two(t)
	w.lay(3, 1023, 0x407) // data page 4 at the last page of all addresses too
	w.layAt(1, va, quote(count(500), count(900))...)
	return w
}

func (w world) told7(va, want uint32) {
	w.Helper()
	if g := w.wants(api.CodeOK, 7, api.SvcVerify, va, 2); g.R[1] != want {
		w.Fatalf("P19.3: SvcVerify at %#x: %d; want %d", va, g.R[1], want)
	}
}

// The words may lie in data that is written, executed, shared, and in two pages that have nothing to do with one another.
func TestVerifyWhereItCanBeRead(t *testing.T) {
	for _, va := range []uint32{0x1000, 0x1004, 0x1fa0, 0x1fa4, 0x1fd0, 0x1ffc, 0x2000, 0x2fa0, 0x2fa4, 0x2fc8, 0x2ffc, 0x3000, 0x3444, 0x3fa0, 0x3ffff000, 0x3fffffa0} {
		w := at(t, va)
		w.told7(va, 1)
		for _, beside := range []uint32{va - 4, va + 4} {
			if r := w.do(7, api.SvcVerify, file(beside, 2)); r.file.R[1] == 1 {
				t.Errorf("P19.3: SvcVerify at %#x: the quote lies at %#x", beside, va)
			}
		}
	}
}

// What reaches out of what is mapped, by any number of words, can't be read; nor can what is no word's address.
func TestVerifyWhereItCannotBeRead(t *testing.T) {
	w := at(t, 0x3fffffa0)
	for words := range uint32(24) {
		w.wants(api.CodeMemory, 7, api.SvcVerify, 0x4000-4*words, 2)
		w.wants(api.CodeMemory, 7, api.SvcVerify, 0x1000-4*(words+1), 2)
		w.wants(api.CodeMemory, 7, api.SvcVerify, 0x40000000-4*words, 2)
		w.wants(api.CodeMemory, 7, api.SvcVerify, 0x3ffff000-4*(words+1), 2)
		w.wants(api.CodeMemory, 7, api.SvcVerify, 0-4*(words+1), 2)
	}
	for _, va := range []uint32{0x1001, 0x1002, 0x1003, 0x3fffffa1, 0x400000, 0x40000000, 0x40001000, 0x80001000, 0xc0001000, 0xffffffff, 0, 2} {
		w.wants(api.CodeMemory, 7, api.SvcVerify, va, 2)
	}
	w.told7(0x3fffffa0, 1)
}

// From the last addresses the words go on at 0, where something may be mapped: the first of them can't be read all the same.
func TestVerifyGoesRound(t *testing.T) {
	w := two(t)
	w.lay(2, 0, 0x407)
	for words := range uint32(24) {
		w.wants(api.CodeMemory, 7, api.SvcVerify, 0-4*(words+1), 2)
	}
	w.told7(0, 0)
}

// A hole at a page in the midst: at each of the words.
func TestVerifyOverHoles(t *testing.T) {
	for words := range uint32(26) {
		w := at(t, 0x1f00)
		w.lay(2, 2, 0)
		code := api.CodeMemory
		if words >= 24 {
			code = api.CodeOK
		}
		w.wants(code, 7, api.SvcVerify, 0x2000-4*words, 2)
	}
}

// Words of tables that are no descriptors, or of pages that there aren't, lead nowhere; those that lead past the space's own pages are followed as the walk does.
func TestVerifyOverAnyTables(t *testing.T) {
	for _, word := range []uint32{0, 0x200, 0x203, 0x1201, 0x4001, 0x80000201, 0xffffffff} {
		w := at(t, 0x1000)
		w.lay(1, 0, word)
		w.wants(api.CodeMemory, 7, api.SvcVerify, 0x1000, 2)
	}
	for _, word := range []uint32{0, 0x400, 0x402, 0x413, 0x1203, 0x301, 0x409, 0x10d, 0x80000407, 0xffffffff} {
		w := at(t, 0x1000)
		w.lay(2, 1, word)
		w.wants(api.CodeMemory, 7, api.SvcVerify, 0x1000, 2)
	}
	w := at(t, 0x1000)
	w.layAt(9, 0x1000, quote(count(1), count(2))...)
	w.lay(1, 0, 0xa01) // the other's table
	w.told7(0x1000, 1)
	w.told7(0x2000, 0)
}

// A quote of any measurement is verified, and under the boot key alone.
func TestVerifyWhoseQuote(t *testing.T) {
	w := two(t)
	other := w.wants(api.CodeOK, 15, api.SvcAttest, 1, 2)
	self := w.wants(api.CodeOK, 15, api.SvcSelf, 1, 2)
	data := file(1, 2)
	w.layAt(1, 0x1000, self.R[1:9]...)
	w.layAt(1, 0x1020, data.R[1:9]...)
	w.layAt(1, 0x1040, other.R[1:9]...)
	w.told7(0x1000, 1)
	for bit := range 256 {
		key := bootKey()
		key[bit/32] ^= 1 << (bit % 32)
		r := done(w.d, ask{key, w.streams, 7, api.SvcVerify, file(0x1000, 2)})
		if r.file.R[0] != 0 || r.file.R[1] != 0 || r.e != api.OK {
			t.Errorf("P19.3: under another key: %+v", r)
		}
	}
	own := w.wants(api.CodeOK, 7, api.SvcAttest, 1, 2)
	w.layAt(1, 0x1040, own.R[1:9]...)
	w.told7(0x1000, 0)
}

// The tag hangs on each of the words: key, measurement, data; and on no other register.
func TestAttestHangsOnEachWord(t *testing.T) {
	w := two(t)
	tags := map[[8]uint32]int{}
	look := func(key [8]uint32, reg int) {
		f := file(1, 2)
		if reg >= 0 {
			f.R[reg]++
		}
		r := done(w.d, ask{key, w.streams, 7, api.SvcAttest, f})
		tags[[8]uint32(r.file.R[1:9])]++
	}
	look(bootKey(), -1)
	for i := range 8 {
		look(bootKey(), 1+i)
		key := bootKey()
		key[i]++
		look(key, -1)
		w.lay(0, entry.SpaceMeasure+i, w.d.Memory().Peek(secure(0), entry.SpaceMeasure+i)^1)
		look(bootKey(), -1)
	}
	if len(tags) != 25 {
		t.Errorf("P19.3: only %d unlike tags", len(tags))
	}
	for _, reg := range []int{0, 9, 10, 11, 12, 13, 14} {
		look(bootKey(), reg)
	}
	if len(tags) != 25 {
		t.Error("P19.3: the tag hangs on other registers than r1 to r8")
	}
}

// Tag and measurement are laid in r1 to r8; the code in r0; nothing else changes.
func TestWhereTheyAreLaid(t *testing.T) {
	for _, n := range []uint32{api.SvcAttest, api.SvcSelf} {
		f, g := file(1, 2), two(t).wants(api.CodeOK, 7, n, 1, 2)
		for i := range f.R {
			if laid := i < 9; laid == (f.R[i] == g.R[i]) {
				t.Errorf("P19.3: call %d: r%d is %#x", n, i, g.R[i])
			}
		}
		g.R = f.R
		if g != f {
			t.Errorf("P19.3: call %d: %+v", n, g)
		}
	}
}
