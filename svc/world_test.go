package svc_test

import (
	"fmt"
	"slices"
	"testing"

	"warden/api"
	"warden/entry"
	"warden/mem"
	"warden/pagedb"
	"warden/regs"
	"warden/svc"
	"warden/valid"
	"warden/walk"
)

func secure(page int) api.Frame { return api.Frame{Secure: true, Page: page} }

func insecure(page int) api.Frame { return api.Frame{Page: page} }

func bootKey() [8]uint32 { return [8]uint32{1, 0xfffffff2, 3, 4, 0x80000000, 6, 7, 8} }

// answered: a call's number, and its code (of an exit and of an error: -1, -2).
type answered struct {
	n    uint32
	code int
}

// world: a database, each call over which is held against a plain reckoning.
type world struct {
	*testing.T
	d       *pagedb.DB
	streams [][]uint32
	seen    map[answered]int // how often each came
}

func over(t *testing.T, d *pagedb.DB) world {
	return world{t, d, [][]uint32{{7, 9}}, map[answered]int{}}
}

func booted(t *testing.T, pages, shared int) world {
	t.Helper()
	m, e := mem.New(pages, shared)
	if e != api.OK {
		t.Fatalf("mem.New(%d, %d): %d", pages, shared, e)
	}
	return over(t, pagedb.New(m))
}

// alike: every entry and every word, secure or not, is as the plain reckoning has it.
func (w world) alike(what string, p *plain) {
	w.Helper()
	for page, want := range p.entries {
		if e, _ := w.d.Entry(page); e != want {
			w.Fatalf("%s: page %d is %+v; want %+v", what, page, e, want)
		}
	}
	if w.d.Births() != p.births {
		w.Fatalf("%s: %d births; want %d", what, w.d.Births(), p.births)
	}
	w.wordsAlike(what, secure, p.secure)
	w.wordsAlike(what, insecure, p.insecure)
}

func (w world) wordsAlike(what string, frame func(int) api.Frame, pages [][]uint32) {
	w.Helper()
	for page, words := range pages {
		for off, want := range words {
			if got := w.d.Memory().Peek(frame(page), off); got != want {
				w.Fatalf("%s: the word %d of %+v is %#x; want %#x", what, off, frame(page), got, want)
			}
		}
	}
}

// do: a call, in both. It touches no more than its cost allows.
func (w world) do(thread int, n uint32, f regs.File) result {
	w.Helper()
	a := ask{bootKey(), w.streams, thread, n, f}
	p, meter := told(w.d), w.d.Memory().Meter()
	got, want := done(w.d, a), p.do(a)
	touched := w.d.Memory().Meter() - meter
	what := fmt.Sprintf("call %d of page %d with %#x", n, thread, f.R)
	if got != want {
		w.Fatalf("P19.3: %s: %+v; want %+v", what, got, want)
	}
	if touched > int64(64*svc.Cost(n)) {
		w.Fatalf("P19.5: %s touches %d words", what, touched)
	}
	w.alike("P19.4: behind "+what, p)
	w.seen[answered{n, codeOf(got)}]++
	return got
}

func done(d *pagedb.DB, a ask) (r result) {
	r.file, r.exit, r.value, r.e = svc.Do(d, a.key, a.streams, a.thread, a.n, a.file)
	return r
}

func codeOf(r result) int {
	switch {
	case r.e != api.OK:
		return -2
	case r.exit:
		return -1
	}
	return int(r.file.R[0])
}

// file: with words everywhere, and flags that no comparison gives.
func file(r1, r2 uint32) regs.File {
	f := regs.File{PC: 0xfffffffd, Z: true, N: true}
	for i := range f.R {
		f.R[i] = 0xabc00000 + uint32(i)
	}
	f.R[1], f.R[2] = r1, r2
	return f
}

// wants: a call with r1 and r2, whose code is told here too; with another than CodeOK no register but r0 may be another.
func (w world) wants(code api.Code, thread int, n, r1, r2 uint32) regs.File {
	w.Helper()
	f := file(r1, r2)
	r := w.do(thread, n, f)
	f.R[0] = uint32(code)
	if r.e != api.OK || r.exit || r.file.R[0] != uint32(code) || code != api.CodeOK && r.file != f {
		w.Fatalf("P19.3: call %d of page %d with %#x, %#x: %+v; want the code %d", n, thread, r1, r2, r, code)
	}
	return r.file
}

func (w world) ok(what string, e api.Errno) {
	w.Helper()
	if e != api.OK {
		w.Fatalf("%s: %d", what, e)
	}
}

func (w world) valid() {
	w.Helper()
	if clause, page := valid.Broken(w.d); clause != 0 {
		w.Fatalf("P19.5: %s is not so at page %d", valid.Says(clause), page)
	}
}

func (w world) take(page int, t entry.Type, space int) {
	w.Helper()
	w.ok("Take", w.d.Take(page, t, space))
}

// lay: words of a secure page, from an offset on.
func (w world) lay(page, off int, words ...uint32) {
	for i, v := range words {
		w.d.Memory().Write(secure(page), off+i, v)
	}
}

// fill: a page gets words of its own everywhere.
func (w world) fill(f api.Frame, v uint32) {
	for off := range 1024 {
		w.d.Memory().Write(f, off, v+uint32(off)*0x9e3779b1)
	}
}

// layAt: words at addresses of a first-level table's, through the tables.
func (w world) layAt(table int, va uint32, words ...uint32) {
	w.Helper()
	for i, v := range words {
		frame, off, e := walk.Translate(w.d.Memory(), table, va+4*uint32(i), walk.Load)
		w.ok("Translate", e)
		w.ok("Write", w.d.Memory().Write(frame, off, v))
	}
}

func (w world) entryIs(page int, want entry.Entry) {
	w.Helper()
	if e, _ := w.d.Entry(page); e != want {
		w.Fatalf("page %d is %+v; want %+v", page, e, want)
	}
}

// wordIs: of a secure page.
func (w world) wordIs(page, off int, want uint32) {
	w.Helper()
	if got := w.d.Memory().Peek(secure(page), off); got != want {
		w.Fatalf("the word %d of page %d is %#x; want %#x", off, page, got, want)
	}
}

func (w world) isZero(page int) {
	w.Helper()
	for off := range 1024 {
		w.wordIs(page, off, 0)
	}
}

// allSeen: each of these codes has come with that call, and no other.
func (w world) allSeen(n uint32, codes ...int) {
	w.Helper()
	for _, code := range codes {
		if w.seen[answered{n, code}] == 0 {
			w.Errorf("call %d never answers %d in this test", n, code)
		}
	}
	for a := range w.seen {
		if a.n == n && !slices.Contains(codes, a.code) {
			w.Errorf("call %d answers %d", n, a.code)
		}
	}
}

// allCallsSeen: every call with all its codes, and a number that is none's.
func (w world) allCallsSeen() {
	w.Helper()
	for n, codes := range [][]api.Code{
		api.SvcExit: {}, api.SvcAttest: {api.CodeOK}, api.SvcVerify: {api.CodeOK, api.CodeMemory},
		api.SvcMap:    {api.CodeOK, api.CodeSpare, api.CodeMapping, api.CodeTable, api.CodeAddress},
		api.SvcUnmap:  {api.CodeOK, api.CodeData, api.CodeMapping, api.CodeTable, api.CodeAddress},
		api.SvcTable:  {api.CodeOK, api.CodeSpare, api.CodeArg, api.CodeAddress},
		api.SvcRandom: {api.CodeOK}, api.SvcSelf: {api.CodeOK}, 8: {api.CodeCall},
	} {
		want := []int{-2}
		if n == api.SvcExit {
			want = append(want, -1)
		}
		for _, code := range codes {
			want = append(want, int(code))
		}
		w.allSeen(uint32(n), want...)
	}
}
