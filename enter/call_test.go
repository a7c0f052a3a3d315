package enter_test

import (
	"testing"

	"warden/api"
	"warden/entry"
	"warden/life"
)

// A thread turns its spare page into memory, uses it, and gives it up again: cheap instructions and dear calls in turn.
func TestOwnMemory(t *testing.T) {
	const program = `
		movi r1 7
		movi r2 0x5003
		svc 3            # the spare page is mapped
		movi r3 0x5000
		movi r4 1234
		str r4 r3 8
		ldr r5 r3 8
		svc 4            # and cut
		mov r6 r0
		ldr r0 r3 8      # nothing is there
		svc 0`
	w := booted(t, 9, 3)
	w.raise(0, program)
	w.wants("P20.3", w.enters(5, 64+2), api.CodeInterrupted, 0)
	w.standsAt("mapped", 5, 0x100c)
	w.entryIs(7, entry.Entry{Type: entry.Data})
	w.wants("P20.3", w.resumes(5, 4), api.CodeInterrupted, 0)
	if got := w.word(7, 2); got != 1234 || w.saved(5)[5] != 1234 {
		t.Errorf("P20.5: stored %d, loaded %d", got, w.saved(5)[5])
	}
	w.wants("P20.3", w.resumes(5, 63), api.CodeInterrupted, 0)
	w.standsAt("not cut", 5, 0x101c)
	w.entryIs(7, entry.Entry{Type: entry.Data})
	w.wants("P20.3", w.resumes(5, 64), api.CodeInterrupted, 0)
	w.entryIs(7, entry.Entry{Type: entry.Spare})
	w.wants("P20.3", w.resumes(5, 2), api.CodeFault, api.FaultData)
	w.wants("P20.3", w.enters(5, 64+64+8), api.CodeFault, api.FaultData)
	w.entryIs(7, entry.Entry{Type: entry.Spare})
}

func (w world) entryIs(page int, want entry.Entry) {
	w.Helper()
	if e, _ := w.d.Entry(page); e != want {
		w.Fatalf("page %d is %+v; want %+v", page, e, want)
	}
}

// A thread that cuts its own program off can't fetch on; where the call isn't paid it can.
func TestCutsItsOwnProgram(t *testing.T) {
	w := booted(t, 9, 3)
	w.raise(0, "movi r1 3\nmovi r2 0x1007\nsvc 4\nsvc 0")
	w.wants("P20.3", w.enters(5, 65), api.CodeInterrupted, 0)
	w.entryIs(3, entry.Entry{Type: entry.Data})
	w.wants("P20.3", w.resumes(5, 65), api.CodeFault, api.FaultFetch)
	w.entryIs(3, entry.Entry{Type: entry.Spare})
	w.isGone("without a program", 5)
	w.wants("P20.3", w.enters(5, 65), api.CodeFault, api.FaultFetch)
}

// A new table, and a page under it, in which the thread then goes on.
func TestGoesOnInANewPage(t *testing.T) {
	w := booted(t, 9, 3)
	w.raise(0, `
		movi r1 7
		movi r2 1
		svc 5
		movi r1 8
		li r2 0x400007
		svc 3
		li r3 0x400000
		li r5 last
		ldr r4 r5 0
		str r4 r3 0
		movi r0 77
		br r3
		last: svc 0`)
	w.wants("P20.3", w.enters(5, 64+64+13), api.CodeInterrupted, 0)
	w.standsAt("in the new page", 5, 0x400000)
	w.wants("P20.3", w.resumes(5, 1), api.CodeOK, 77)
	w.entryIs(7, entry.Entry{Type: entry.Second})
	w.entryIs(8, entry.Entry{Type: entry.Data})
}

// A thread may change its own program; the next fetch sees it.
func TestChangesItsProgram(t *testing.T) {
	w := booted(t, 9, 3)
	w.raise(0, "movi r3 0x1000\nldr r4 r3 16\nstr r4 r3 12\nmovi r0 5\nsvc 0")
	w.wants("P20.3", w.enters(5, 4, 42), api.CodeOK, 42)
	w.wants("P20.3", w.enters(5, 4, 43), api.CodeOK, 43)
}

// Whatever the system writes into a shared page between two pieces, the thread reads; what it stores there the system reads.
func TestSharedPages(t *testing.T) {
	w := booted(t, 9, 3)
	w.raise(0, "movi r3 0x3000\nmovi r4 0x4000\nldr r5 r4 4\nstr r5 r3 8\nldr r0 r4 4\nsvc 0")
	w.write(2, 1, 11)
	w.wants("P20.3", w.enters(5, 4), api.CodeInterrupted, 0)
	if got := w.d.Memory().Peek(insecure(1), 2); got != 11 {
		t.Errorf("P20.5: the shared word is %d", got)
	}
	w.write(2, 1, 12)
	w.wants("P20.3", w.resumes(5, 2), api.CodeOK, 12)
}

// Draws go on from one entry to the next, by whichever thread, behind a fault too; each is taken once.
func TestDrawsGoOn(t *testing.T) {
	w := booted(t, 9, 3)
	w.streams = roomy([]uint32{10, 20, 30, 40, 50})
	w.raise(0, "svc 6\nb al 1\nsvc 6\nmov r0 r1\nsvc 0")
	w.wants("P20.3", w.enters(5, 4), api.CodeOK, 10)
	w.wants("P20.3", w.enters(6, 1), api.CodeInterrupted, 0)
	w.wants("P20.3", w.enters(5, 2), api.CodeInterrupted, 0)
	w.wants("P20.3", w.resumes(6, 2), api.CodeOK, 20)
	w.wants("P20.3", w.resumes(5, 2), api.CodeOK, 30)
	if got := w.word(0, entry.SpaceDraws); got != 3 {
		t.Errorf("P20.3: %d draws", got)
	}
	w.streams = nil
	w.wants("P20.3", w.enters(5, 4), api.CodeOK, 0)
	w.streams = roomy([]uint32{10, 20, 30, 40, 50})
	w.wants("P20.3", w.enters(5, 4), api.CodeOK, 50)
}

// The tag that a thread is given is one that it can have verified, under the key that the call was handed alone.
func TestTagsAreUnderTheKey(t *testing.T) {
	const program = `
		movi r9 0x2000
		svc 7
		str r1 r9 0
		str r2 r9 4
		str r3 r9 8
		str r4 r9 12
		str r5 r9 16
		str r6 r9 20
		str r7 r9 24
		str r8 r9 28
		movi r10 0
		copy: ldx r11 r9 r10
		addi r12 r10 32
		stx r11 r9 r12
		addi r10 r10 4
		cmpi r10 32
		b lo copy
		svc 1
		str r1 r9 64
		str r2 r9 68
		str r3 r9 72
		str r4 r9 76
		str r5 r9 80
		str r6 r9 84
		str r7 r9 88
		str r8 r9 92
		mov r1 r9
		svc 2
		mov r0 r1
		svc 0`
	w := booted(t, 9, 3)
	w.raise(0, program)
	const steps = 11 + 8*6 + 8 + 1 + 1 + 1
	w.wants("P20.3", w.enters(5, steps+128), api.CodeOK, 1)
	w.wants("P20.3", w.enters(5, steps+128-66), api.CodeInterrupted, 0)
	w.standsAt("at the verify", 5, 0x106c)
	w.key[3] ^= 1
	w.wants("P20.3", w.resumes(5, 66), api.CodeOK, 0)
	w.wants("P20.3", w.enters(5, steps+128), api.CodeOK, 1)
}

// What a thread is interrupted in is no business of the system's other calls: pages come and go, other spaces too.
func TestSystemGoesOnBetween(t *testing.T) {
	w := booted(t, 20, 4)
	w.raise(0, "movi r1 7\nmovi r2 0x5003\nsvc 3\nsvc 0")
	w.wants("P20.3", w.enters(5, 2), api.CodeInterrupted, 0)
	w.ok("Remove", life.Remove(w.d, 7))
	w.raise(9, "svc 0")
	w.wants("P20.3", w.enters(14, 9, 6), api.CodeOK, 6)
	w.wants("P20.3", w.resumes(5, 65), api.CodeOK, uint32(api.CodeSpare))
	w.ok("Spare", life.Spare(w.d, 0, 7))
	w.wants("P20.3", w.enters(5, 67), api.CodeOK, uint32(api.CodeOK))
	w.wants("P20.3", w.enters(5, 67), api.CodeOK, uint32(api.CodeSpare))
}
