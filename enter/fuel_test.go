package enter_test

import (
	"math"
	"strconv"
	"testing"

	"warden/api"
	"warden/entry"
)

// Fuel below 0 counts as 0, above MaxFuel as MaxFuel: told by how far a count has come.
func TestFuelIsTakenIntoItsBounds(t *testing.T) {
	for _, x := range []struct {
		fuel  int
		steps uint32
	}{
		{math.MinInt, 0}, {-1 << 32, 0}, {math.MinInt32, 0}, {-2, 0}, {-1, 0}, {0, 0}, {1, 1}, {2, 2}, {3, 3}, {64, 64}, {99998, 99998}, {99999, 99999}, {100000, 100000},
		{100001, 100000}, {100002, 100000}, {1000000, 100000}, {math.MaxInt32, 100000}, {1 << 32, 100000}, {1<<32 + 5, 100000}, {math.MaxInt, 100000},
	} {
		w := enclave(t, "addi r0 r0 1\nb al -2")
		w.wants("P20.1", w.enters(5, x.fuel, 7, 8, 9), api.CodeInterrupted, 0)
		w.stands("P20.1: fuel "+strconv.Itoa(x.fuel), 5, [17]uint32{7 + (x.steps+1)/2, 8, 9, 15: 0x1000 + x.steps%2*4})
		w.wants("P20.2", w.resumes(5, x.fuel), api.CodeInterrupted, 0)
		w.stands("P20.2: twice the fuel "+strconv.Itoa(x.fuel), 5, [17]uint32{7 + x.steps, 8, 9, 15: 0x1000})
	}
}

// A program that just needs all the fuel there may be, and one that needs one more.
func TestMostFuel(t *testing.T) {
	count := func(rounds int) string {
		return "li r1 " + strconv.Itoa(rounds) + "\nx: addi r0 r0 1\ncmp r0 r1\nb lo x\n"
	}
	w := enclave(t, count(33332)+"svc 99\nsvc 0") // 2 and 3 times 33332 and 2: 100000
	w.wants("P20.3", w.enters(5, 99999), api.CodeInterrupted, 0)
	w.standsAt("one is missing", 5, 0x1018)
	w.wants("P20.3", w.resumes(5, 1), api.CodeOK, uint32(api.CodeCall))
	for _, fuel := range []int{100000, 100001, math.MaxInt} {
		w.wants("P20.3", w.enters(5, fuel), api.CodeOK, uint32(api.CodeCall))
	}
	w = enclave(t, count(33332)+"svc 99\nmov r0 r1\nsvc 0")
	for _, fuel := range []int{100000, 100001, math.MaxInt} {
		w.wants("P20.3", w.enters(5, fuel), api.CodeInterrupted, 0)
		w.standsAt("the exit is left", 5, 0x101c)
		w.wants("P20.3", w.resumes(5, fuel), api.CodeOK, 33332)
	}
}

// costs: what a call of that number costs, by the chapter ahead.
func costs(n int) int {
	if n >= 1 && n <= 5 {
		return 64
	}
	return 1
}

// Each call, done with just its cost and not done with less; then the thread stands at the svc, and nothing has changed.
func TestCallsCost(t *testing.T) {
	for _, n := range []int{1, 2, 3, 4, 5, 6, 7, 8, 9, 63, 64, 65, 255, 256, 257, 32768, 65535} {
		program := "svc " + strconv.Itoa(n) + "\nsvc 0"
		for fuel := range costs(n) {
			w := enclave(t, program)
			was := w.d.Clone()
			w.wants("P20.3", w.enters(5, fuel, 1, 2, 3), api.CodeInterrupted, 0)
			w.stands("not paid: "+program, 5, [17]uint32{1, 2, 3, 15: 0x1000})
			if got := w.word(0, entry.SpaceDraws); got != 0 {
				t.Errorf("P20.3: %d draws", got)
			}
			w.wants("P20.3", w.resumes(5, costs(n)+1), api.CodeOK, w.result(n))
			if n != api.SvcRandom {
				w.alike("P20.5: behind the exit", w.d, was)
			}
		}
		w := enclave(t, program)
		w.wants("P20.3", w.enters(5, costs(n), 1, 2, 3), api.CodeInterrupted, 0)
		w.standsAt("paid: "+program, 5, 0x1004)
		if got := w.saved(5)[0]; got != w.result(n) {
			t.Errorf("P20.3: svc %d: r0 is %d", n, got)
		}
		w.wants("P20.3", w.resumes(5, 1), api.CodeOK, w.result(n))
		w.wants("P20.3", w.enters(5, costs(n)+1, 1, 2, 3), api.CodeOK, w.result(n))
	}
}

// result: r0 behind a call with r1 2 and r2 3 of the chapter's enclave.
func (w world) result(n int) uint32 {
	switch n {
	case api.SvcAttest, api.SvcRandom, api.SvcSelf:
		return uint32(api.CodeOK)
	case api.SvcVerify:
		return uint32(api.CodeMemory)
	case api.SvcMap, api.SvcTable:
		return uint32(api.CodeSpare)
	case api.SvcUnmap:
		return uint32(api.CodeData)
	}
	return uint32(api.CodeCall)
}

// Behind an instruction the calls cost what they cost behind none; each fuel ends where the sum of the costs says.
func TestCostsAddUp(t *testing.T) {
	program, prices := "", []int{}
	for _, n := range []int{-1, 6, 1, -1, -1, 7, 5, 2, 99, 6, -1, 3, 4, 1, 0} {
		if n < 0 {
			program += "add r3 r3 r1\n"
			prices = append(prices, 1)
			continue
		}
		program += "svc " + strconv.Itoa(n) + "\n"
		prices = append(prices, costs(n))
	}
	w := enclave(t, program)
	for fuel := range 400 {
		left, place := fuel, 0
		for place < len(prices) && prices[place] <= left {
			left -= prices[place]
			place++
		}
		d := w.d.Clone()
		got := world{t, d, w.key, w.streams, w.seen}
		if place == len(prices) {
			got.wants("P20.3", got.enters(5, fuel, 1, 1, 1), api.CodeOK, 0)
			continue
		}
		got.wants("P20.3", got.enters(5, fuel, 1, 1, 1), api.CodeInterrupted, 0)
		got.standsAt("fuel "+strconv.Itoa(fuel), 5, 0x1000+4*uint32(place))
	}
}

// A fault costs the step that tells it: ahead of that the thread is interrupted there, and with no fuel it stays so.
func TestFaultsCost(t *testing.T) {
	for fault, program := range map[uint32]string{
		api.FaultCode:  "mov r0 r1\nword 0xffffffff",
		api.FaultFetch: "mov r0 r1\nbr r2",
		api.FaultData:  "mov r0 r1\nldr r0 r2 0",
	} {
		steps := 2
		if fault == api.FaultFetch { // the jump itself is none
			steps = 3
		}
		w := enclave(t, program)
		for fuel := range 8 {
			if fuel >= steps {
				w.wants("P20.3", w.enters(5, fuel, 1, 2, 0x2000), api.CodeFault, fault)
				w.isGone("a fault", 5)
				continue
			}
			w.wants("P20.3", w.enters(5, fuel, 1, 2, 0x2000), api.CodeInterrupted, 0)
			for range 3 {
				w.wants("P20.3", w.resumes(5, 0), api.CodeInterrupted, 0)
			}
			w.wants("P20.3", w.resumes(5, steps-fuel), api.CodeFault, fault)
			w.isGone("a fault", 5)
		}
	}
}

// With less than 64 each time a thread never gets past a call that costs 64.
func TestTooLittleFuelForEver(t *testing.T) {
	w := enclave(t, "addi r0 r0 1\nsvc 1\nsvc 0")
	w.wants("P20.3", w.enters(5, 64), api.CodeInterrupted, 0)
	was := w.d.Clone()
	for fuel := range 64 {
		w.wants("P20.3", w.resumes(5, fuel), api.CodeInterrupted, 0)
		w.alike("P20.3: nothing is done", w.d, was)
	}
	w.wants("P20.3", w.resumes(5, 64), api.CodeInterrupted, 0)
	w.standsAt("done", 5, 0x1008)
}
