package enter_test

import (
	"slices"
	"strconv"
	"testing"

	"warden/api"
	"warden/entry"
)

// mixer: the argument by which full makes words that stand nowhere in its program.
const mixer = 0x9e3779b1

// full: 28 instructions, behind which each register has a word of its own.
func full() string {
	program := ""
	for i := 1; i < 15; i++ {
		r := " r" + strconv.Itoa(i)
		program += "movi" + r + " " + strconv.Itoa(977*i) + "\nmul" + r + r + " r0\n"
	}
	return program
}

// filled: the saved words of a file behind full, at an address, with flags.
func filled(pc, flags uint32) (words [17]uint32) {
	words[0] = mixer
	for i := uint32(1); i < 15; i++ {
		words[i] = 977 * i * mixer
	}
	words[15], words[16] = pc, flags
	return words
}

// All of a file is saved, and all of it comes back: registers, address, and the flags by which the next jumps go.
func TestWholeFileIsSaved(t *testing.T) {
	const jumps = "b lt 1\nb al 1\naddi r0 r0 1\nb lo 1\nb al 1\naddi r0 r0 2\nb eq 1\nb al 1\naddi r0 r0 4\nsvc 0"
	// r1 and r2 are below 0 with a sign, r3 and r4 are not, and r4 is below r3.
	for _, x := range []struct {
		compare      string
		flags, value uint32
	}{{"cmp r3 r4", 0, 0}, {"cmp r3 r3", 1, 4}, {"cmp r1 r3", 2, 1}, {"cmp r3 r1", 4, 2}, {"cmp r4 r3", 6, 3}, {"cmp r2 r1", 6, 3}} {
		w := enclave(t, full()+x.compare+"\n"+jumps)
		w.wants("P20.4", w.enters(5, 28, mixer), api.CodeInterrupted, 0)
		w.stands(x.compare, 5, filled(0x1070, 0))
		w.wants("P20.4", w.resumes(5, 1), api.CodeInterrupted, 0)
		w.stands(x.compare, 5, filled(0x1074, x.flags))
		w.wants("P20.4", w.resumes(5, 0), api.CodeInterrupted, 0)
		w.stands(x.compare, 5, filled(0x1074, x.flags))
		w.wants("P20.2", w.resumes(5, 100), api.CodeOK, mixer+x.value)
		w.isGone(x.compare, 5)
	}
}

// From an entry a thread begins with the arguments and zeros, whatever its last file was.
func TestEntryBeginsAnew(t *testing.T) {
	w := enclave(t, full()+"cmp r4 r3\nsvc 0")
	w.wants("P20.4", w.enters(5, 29, mixer), api.CodeInterrupted, 0)
	w.wants("P20.2", w.resumes(5, 1), api.CodeOK, mixer)
	w.wants("P20.4", w.enters(5, 0, 5, 0xffffffff, 0x80000000), api.CodeInterrupted, 0)
	w.stands("anew", 5, [17]uint32{5, 0xffffffff, 0x80000000, 15: 0x1000})
}

// A thread may begin at any word: where nothing can be fetched the first step faults, and with no fuel it stands there.
func TestEntryMayBeAnyWord(t *testing.T) {
	for _, va := range []uint32{0, 1, 0x1001, 0x1002, 0xffc, 0x2000, 0x3ffffffc, 0x40000000, 0x40001000, 0x80001000, 0xfffffffc, 0xffffffff} {
		w := enclave(t, "svc 0")
		w.lay(5, entry.ThreadEntry, va)
		w.wants("P20.1", w.enters(5, 0, 1, 2, 3), api.CodeInterrupted, 0)
		w.stands("no fuel", 5, [17]uint32{1, 2, 3, 15: va})
		w.wants("P20.3", w.resumes(5, 1), api.CodeFault, api.FaultFetch)
		w.wants("P20.3", w.enters(5, 1, 1, 2, 3), api.CodeFault, api.FaultFetch)
	}
}

// A svc at the first and at the last address, and at the end of a page.
func TestCallsAtTheEdges(t *testing.T) {
	for _, va := range []uint32{0, 0xffc, 0x3fffff8, 0x3fffffc, 0x3ffffffc} {
		w := at(t, va, "svc 1")
		w.wants("P20.3", w.enters(5, 63), api.CodeInterrupted, 0)
		w.stands("not paid", 5, [17]uint32{15: va})
		w.wants("P20.3", w.resumes(5, 64), api.CodeInterrupted, 0)
		w.standsAt("paid", 5, va+4)
		fault := uint32(api.FaultFetch)
		if va%0x1000 != 0xffc {
			fault = api.FaultCode
		}
		w.wants("P20.3", w.resumes(5, 1), api.CodeFault, fault)
		w = at(t, va, "svc 0")
		w.wants("P20.3", w.enters(5, 1, 9), api.CodeOK, 9)
	}
}

// traces: where a word of a file that full made stands in the machine.
func (w world) traces() (all []api.Frame) {
	file := filled(0, 0)
	for _, frame := range frames(w.d.Memory()) {
		for off := range 1024 {
			if slices.Contains(file[:15], w.d.Memory().Peek(frame, off)) {
				all = append(all, frame)
			}
		}
	}
	return all
}

// Behind an exit or a fault nothing of the file is left anywhere; behind an interrupt it stands in the thread's page, once.
func TestNoTraces(t *testing.T) {
	for program, want := range map[string]told{
		"movi r0 3\nsvc 0":            {api.CodeOK, 3},
		"word 5":                      {api.CodeFault, api.FaultCode},
		"b al 1000":                   {api.CodeFault, api.FaultFetch},
		"str r1 r2 0":                 {api.CodeFault, api.FaultData},
		"ldr r1 r2 0":                 {api.CodeFault, api.FaultData},
		"movi r2 0x1000\nstr r1 r2 0": {api.CodeFault, api.FaultData},
	} {
		w := enclave(t, full()+program)
		if traces := w.traces(); len(traces) != 0 {
			t.Fatalf("ahead of all calls: %v", traces)
		}
		w.wants("P20.5: "+program, w.enters(5, 100, mixer), want.code, want.value)
		if traces := w.traces(); len(traces) != 0 {
			t.Errorf("P20.5: %s: traces in %v", program, traces)
		}
		w.wants("P20.4: "+program, w.enters(5, 28, mixer), api.CodeInterrupted, 0)
		if traces := w.traces(); len(traces) != 15 || traces[0] != secure(5) || traces[14] != secure(5) {
			t.Errorf("P20.4: %s: traces in %v", program, traces)
		}
		w.wants("P20.5: "+program, w.resumes(5, 100), want.code, want.value)
		if traces := w.traces(); len(traces) != 0 {
			t.Errorf("P20.5: %s: traces in %v", program, traces)
		}
	}
}
