package twin_test

import (
	"math"
	"testing"

	"warden/api"
	"warden/twin"
)

// Of every page, each birth, each of the two calls: a step runs the enclave just if the machine takes it and the thread is that one's.
func TestRunsIsWhatIsTaken(t *testing.T) {
	w := town(t)
	homes := map[int]int{1: 0, 2: 7, 3: 14, 4: 21}
	for page := range uint32(34) {
		for _, s := range []twin.Step{entered(page, 3), resumed(page, 3)} {
			r := twin.Do(w.m.Clone(), s)
			taken := r.Code == api.CodeOK || r.Code == api.CodeInterrupted || r.Code == api.CodeFault
			for birth := -1; birth < 7; birth++ {
				home, is := homes[birth]
				want := taken && is && int(page) == home+5
				if got := w.runs(s, birth); got != want {
					t.Errorf("P26.2: Runs(%+v, %d) = %v", s, birth, got)
				}
			}
		}
	}
	for _, c := range []struct {
		s     twin.Step
		birth int
	}{{entered(5, 0), 1}, {resumed(12, 0), 2}} {
		if !w.runs(c.s, c.birth) {
			t.Errorf("P26.2: Runs(%+v, %d) is false", c.s, c.birth)
		}
	}
}

// A page's number is the whole word, no other bits of it.
func TestRunsOfOtherNumbers(t *testing.T) {
	w := town(t)
	for bit := range 32 {
		page := uint32(5) ^ 1<<bit
		if w.runs(entered(page, 0), 1) {
			t.Errorf("P26.2: the page %#x", page)
		}
		v := uint32(17) ^ 1<<bit
		if w.runs(twin.Step{Kind: twin.Call, V: v, A: 5}, 1) {
			t.Errorf("P26.2: the call %#x", v)
		}
	}
	for _, kind := range []twin.Kind{twin.Write, twin.Set, 3, -1, math.MaxInt, math.MinInt} {
		if w.runs(twin.Step{Kind: kind, V: 17, A: 5}, 1) {
			t.Errorf("P26.2: the kind %d", kind)
		}
	}
	for n := range uint32(32) {
		if is := w.runs(twin.Step{Kind: twin.Call, V: n, A: 5}, 1); is != (n == 17) {
			t.Errorf("P26.2: the call %d of a thread that isn't interrupted: %v", n, is)
		}
		if is := w.runs(twin.Step{Kind: twin.Call, V: n, A: 12}, 2); is != (n == 18) {
			t.Errorf("P26.2: the call %d of an interrupted thread: %v", n, is)
		}
	}
}

// Neither the other arguments nor the fuel matter.
func TestRunsWithAnyArguments(t *testing.T) {
	w := town(t)
	for _, v := range words() {
		s := twin.Step{Kind: twin.Call, V: 17, A: 5, B: v, C: v, D: v, Fuel: int(v)}
		if !w.runs(s, 1) || w.runs(s, 2) {
			t.Errorf("P26.2: %+v", s)
		}
	}
	for _, fuel := range []int{math.MinInt, -1, math.MaxInt} {
		if !w.runs(entered(5, fuel), 1) {
			t.Errorf("P26.2: with the fuel %d", fuel)
		}
	}
}

// A birth is a number, no word: what stands in the space's page is held against it as it is.
func TestRunsOfOddBirths(t *testing.T) {
	w := chapter(t)
	for _, birth := range []uint32{0, 1, 63, 64, 0x7fffffff, 0x80000000, 0xffffffff} {
		c := world{t, w.with(0, 1, birth), w.seen}
		for _, asked := range []int{math.MinInt, -1 << 32, -1 << 31, -1, 0, 1, 63, 64, 1<<31 - 1, 1 << 31, 1<<32 - 1, 1 << 32, 1<<32 + 1, math.MaxInt} {
			if is := c.runs(entered(5, 0), asked); is != (asked == int(birth)) {
				t.Errorf("P26.2: the birth %d, asked for %d: %v", birth, asked, is)
			}
		}
	}
}

// What is asked is how the machine is now.
func TestRunsAsItIs(t *testing.T) {
	w := chapter(t)
	asks := func(what string, enters, resumes bool) {
		t.Helper()
		if w.runs(entered(5, 0), 0) != enters || w.runs(resumed(5, 0), 0) != resumes {
			t.Errorf("P26.2: %s", what)
		}
	}
	asks("at first", true, false)
	w.does(api.CodeInterrupted, 1, api.CallEnter, 5)
	asks("interrupted", false, true)
	w.does(api.CodeInterrupted, 0, api.CallResume, 5)
	asks("interrupted again", false, true)
	w.does(api.CodeOK, 9, api.CallResume, 5)
	asks("behind its exit", true, false)
	w.does(api.CodeInterrupted, 1, api.CallEnter, 5)
	w.does(api.CodeOK, 0, api.CallStop, 0)
	asks("stopped", false, false)
	w.does(api.CodeOK, 0, api.CallRemove, 5)
	asks("removed", false, false)
	build := booted(t, 8, 4)
	build.build(0, "svc 0", 1, 0)
	w.m = build.m
	asks("being built", false, false)
	w.does(api.CodeOK, 0, api.CallFinal, 0)
	asks("final", true, false)
}
