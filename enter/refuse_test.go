package enter_test

import (
	"testing"

	"warden/api"
	"warden/build"
	"warden/entry"
	"warden/life"
)

// refused: what Enter and Resume of a page answer, whatever else they are handed.
func (w world) refused(page uint32, enter, resume api.Code) {
	w.Helper()
	for _, fuel := range []int{-1, 0, 1, 100} {
		if enter != api.CodeOK {
			w.wants("P20.1", w.enters(page, fuel, 1, 0xffffffff, page), enter, 0)
		}
		if resume != api.CodeOK {
			w.wants("P20.2", w.resumes(page, fuel), resume, 0)
		}
	}
}

// four: enclaves from the pages 0, 8, 16 and 24 on, each a space, its table, a second-level table, a data page with "svc 0", two threads of which the second one is interrupted (but for the last enclave), a spare page. The first is final, the second was stopped when it was final, the third when it wasn't; the last one is being built.
func four(t *testing.T) world {
	t.Helper()
	w := booted(t, 34, 1)
	w.write(0, 0, w.assemble("svc 0", 0x1000)...)
	for _, s := range []uint32{0, 8, 16, 24} {
		w.ok("building", build.Space(w.d, s, s+1), build.Table(w.d, s, s+2, 0), build.Data(w.d, s, s+3, 0x1005, 0), build.Thread(w.d, s, s+4, 0x1000), build.Thread(w.d, s, s+5, 0x1000), life.Spare(w.d, s, s+6))
		if s < 16 {
			w.ok("Final", life.Final(w.d, s))
			w.wants("P20.4", w.enters(s+5, 0, 1, 2, 3), api.CodeInterrupted, 0)
		}
	}
	w.ok("Stop", life.Stop(w.d, 8), life.Stop(w.d, 16))
	w.valid()
	return w
}

// Each page, of every type and in every state of its space.
func TestRefusals(t *testing.T) {
	w := four(t)
	for page := range uint32(34) {
		switch s := page / 8 * 8; {
		case page < 32 && page-s == 4 && s == 0:
			w.refused(page, api.CodeOK, api.CodeNotEntered)
		case page < 32 && page-s == 5 && s == 0:
			w.refused(page, api.CodeEntered, api.CodeOK)
		case page < 32 && (page-s == 4 || page-s == 5):
			w.refused(page, api.CodeNotFinal, api.CodeNotFinal)
		default:
			w.refused(page, api.CodeThread, api.CodeThread)
		}
	}
	w.wants("P20.1", w.enters(4, 1, 77), api.CodeOK, 77)
	w.wants("P20.2", w.resumes(5, 1), api.CodeOK, 1)
}

// A number that is no secure page's, whatever its bits are: also where they begin or end as a thread's does.
func TestRefusalsOfNoPages(t *testing.T) {
	w := four(t)
	for _, page := range []uint32{34, 35, 63, 64, 68, 69, 127, 256 + 4, 256 + 5, 1<<16 + 4, 1<<16 + 5, 1<<31 - 1, 1 << 31, 1<<31 + 4, 1<<31 + 5, 0xfffffff5, 0xffffffff} {
		w.refused(page, api.CodePage, api.CodePage)
	}
	whole := booted(t, 64, 1)
	whole.refused(63, api.CodeThread, api.CodeThread)
	whole.refused(64, api.CodePage, api.CodePage)
	least := booted(t, 1, 1)
	least.refused(0, api.CodeThread, api.CodeThread)
	least.refused(1, api.CodePage, api.CodePage)
}

// A thread's page that is given back is no thread any more; one that another space has taken is that one's.
func TestRefusalsBehindRemove(t *testing.T) {
	w := four(t)
	w.ok("Remove", life.Remove(w.d, 13))
	w.refused(13, api.CodeThread, api.CodeThread)
	w.ok("Thread", build.Thread(w.d, 24, 13, 0x1000))
	w.refused(13, api.CodeNotFinal, api.CodeNotFinal)
	w.ok("Final", life.Final(w.d, 24))
	w.refused(13, api.CodeOK, api.CodeNotEntered)
	w.wants("P20.1", w.enters(13, 1, 5), api.CodeOK, 5)
}

// Two threads of a space: each is interrupted by itself, with a file of its own.
func TestThreadsAreApart(t *testing.T) {
	w := four(t)
	w.wants("P20.4", w.enters(4, 0, 10, 20, 30), api.CodeInterrupted, 0)
	w.stands("the first", 4, [17]uint32{10, 20, 30, 15: 0x1000})
	w.stands("the second", 5, [17]uint32{1, 2, 3, 15: 0x1000})
	w.wants("P20.2", w.resumes(5, 1), api.CodeOK, 1)
	w.stands("the first", 4, [17]uint32{10, 20, 30, 15: 0x1000})
	w.isGone("the second", 5)
	w.wants("P20.2", w.resumes(4, 1), api.CodeOK, 10)
	w.isGone("the first", 4)
}

// Behind a stop an interrupted thread stays as it is, and is never run again.
func TestStoppedWhileInterrupted(t *testing.T) {
	w := enclave(t, "addi r0 r0 1\nb al -2")
	w.wants("P20.3", w.enters(5, 5, 7), api.CodeInterrupted, 0)
	want := [17]uint32{0: 10, 15: 0x1004}
	w.stands("a loop", 5, want)
	w.ok("Stop", life.Stop(w.d, 0))
	w.refused(5, api.CodeNotFinal, api.CodeNotFinal)
	w.stands("a loop that is stopped", 5, want)
	w.ok("Remove", life.Remove(w.d, 5))
	if e, _ := w.d.Entry(5); e != (entry.Entry{}) || w.saved(5) != [17]uint32{} {
		t.Errorf("W5: page 5 is %+v with %#x", e, w.saved(5))
	}
}
