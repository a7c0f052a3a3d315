package enter_test

import (
	"testing"

	"warden/api"
	"warden/build"
	"warden/entry"
	"warden/life"
)

func TestExample1(t *testing.T) {
	w := enclave(t, "addi r0 r0 1\nsvc 0")
	w.wants("P20.3", w.enters(5, 100, 41, 0, 0), api.CodeOK, 42)
	w.wants("P20.3", w.enters(5, 2, 41, 0, 0), api.CodeOK, 42)
	w.isGone("an exit", 5)
	w.wants("P20.3", w.enters(5, 1, 41, 0, 0), api.CodeInterrupted, 0)
	w.stands("fuel 1", 5, [17]uint32{0: 42, 15: 0x1004})
	w.wants("P20.3", w.resumes(5, 1), api.CodeOK, 42)
	w.isGone("an exit", 5)
	w.wants("P20.4", w.enters(5, 0, 41, 0, 0), api.CodeInterrupted, 0)
	w.stands("fuel 0", 5, [17]uint32{0: 41, 15: 0x1000})
	w.wants("P20.3", w.resumes(5, 2), api.CodeOK, 42)
	w.isGone("an exit", 5)
}

func TestExample2(t *testing.T) {
	w := enclave(t, "svc 6\nsvc 0")
	w.wants("P20.3", w.enters(5, 2, 3, 4, 5), api.CodeOK, 0)
	if got := w.word(0, entry.SpaceDraws); got != 1 {
		t.Errorf("P20.3: %d draws", got)
	}
	w.wants("P20.3", w.enters(5, 1), api.CodeInterrupted, 0)
	w.stands("the second draw", 5, [17]uint32{1: 9, 15: 0x1004})
}

func TestExample3(t *testing.T) {
	w := enclave(t, "svc 1\nsvc 0")
	w.wants("P20.3", w.enters(5, 63, 1, 2, 3), api.CodeInterrupted, 0)
	w.stands("fuel 63", 5, [17]uint32{1, 2, 3, 15: 0x1000})
	w.wants("P20.3", w.resumes(5, 64), api.CodeInterrupted, 0)
	w.standsAt("fuel 64", 5, 0x1004)
	if w.saved(5)[8] == 0 {
		t.Error("P20.3: nothing is attested")
	}
	w.wants("P20.3", w.resumes(5, 1), api.CodeOK, 0)
	w.wants("P20.3", w.enters(5, 64, 1, 2, 3), api.CodeInterrupted, 0)
	w.standsAt("fuel 64", 5, 0x1004)
	w.wants("P20.3", w.resumes(5, 1), api.CodeOK, 0)
	w.wants("P20.3", w.enters(5, 65, 1, 2, 3), api.CodeOK, 0)
}

func TestExample4(t *testing.T) {
	for fault, program := range map[uint32]string{
		api.FaultCode:  "word 7",
		api.FaultFetch: "b al 1023",
		api.FaultData:  "movi r1 0x1000\nstr r0 r1 0",
	} {
		w := enclave(t, program)
		for range 3 {
			w.wants("P20.3", w.enters(5, 100, 9, 8, 7), api.CodeFault, fault)
			w.isGone("a fault", 5)
		}
	}
	if api.FaultCode != 1 || api.FaultFetch != 2 || api.FaultData != 3 {
		t.Error("the faults are others")
	}
}

func TestExample5(t *testing.T) {
	w := enclave(t, "svc 0")
	w.wants("P20.1", w.enters(0, 100), api.CodeThread, 0)
	w.wants("P20.1", w.enters(64, 100), api.CodePage, 0)
	w.wants("P20.2", w.resumes(5, 100), api.CodeNotEntered, 0)
	w.enters(5, 0)
	w.wants("P20.1", w.enters(5, 100), api.CodeEntered, 0)
	life.Stop(w.d, 0)
	w.wants("P20.1", w.enters(5, 100), api.CodeNotFinal, 0)
	w = booted(t, 8, 1)
	w.ok("building", build.Space(w.d, 0, 1), build.Thread(w.d, 0, 5, 0x1000))
	w.wants("P20.1", w.enters(5, 100), api.CodeNotFinal, 0)
}

func TestExample6(t *testing.T) {
	w := enclave(t, "b al -1")
	w.wants("P20.3", w.enters(5, 100000), api.CodeInterrupted, 0)
	w.wants("P20.3", w.resumes(5, 1000000), api.CodeInterrupted, 0)
	w.stands("a loop", 5, [17]uint32{15: 0x1000})
}
