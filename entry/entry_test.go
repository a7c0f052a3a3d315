package entry_test

import (
	"testing"

	"warden/api"
	"warden/entry"
	"warden/regs"
	"warden/sha"
)

func TestNumbers(t *testing.T) {
	types := []entry.Type{entry.Free, entry.Space, entry.Thread, entry.First, entry.Second, entry.Data, entry.Spare, entry.Types}
	for i, k := range types {
		if int(k) != i {
			t.Errorf("Types: the type %d is %d", i, int(k))
		}
	}
	states := []entry.State{entry.None, entry.Init, entry.Final, entry.Stopped, entry.States}
	for i, s := range states {
		if int(s) != i {
			t.Errorf("Types: the state %d is %d", i, int(s))
		}
	}
}

func TestPlaces(t *testing.T) {
	space := [6]int{entry.SpaceFirst, entry.SpaceBirth, entry.SpaceDraws, entry.SpaceMeasure, entry.SpaceDigest, entry.SpaceUsed}
	if space != [6]int{0, 1, 2, 3, 11, 37} {
		t.Errorf("Types: the words of a space's page begin at %d", space)
	}
	thread := [3]int{entry.ThreadEntry, entry.ThreadSaved, entry.ThreadUsed}
	if thread != [3]int{0, 1, 18} {
		t.Errorf("Types: the words of a thread's page begin at %d", thread)
	}
	if entry.SpaceUsed-entry.SpaceDigest != sha.StateWords {
		t.Errorf("Types: a running digest has %d words, its place %d", sha.StateWords, entry.SpaceUsed-entry.SpaceDigest)
	}
	if entry.ThreadUsed-entry.ThreadSaved != regs.PackWords {
		t.Errorf("Types: a packed file has %d words, its place %d", regs.PackWords, entry.ThreadUsed-entry.ThreadSaved)
	}
}

func TestCheckExamples(t *testing.T) {
	for _, e := range []entry.Entry{
		{},
		{Type: entry.Space, Owner: 0, Refs: 63, State: entry.Stopped},
		{Type: entry.Thread, Owner: 63, Entered: true},
	} {
		if got := entry.Check(e); got != api.OK {
			t.Errorf("P11.1: Check(%+v) = %d", e, got)
		}
	}
	for _, e := range []entry.Entry{
		{Type: entry.Free, Owner: 1},
		{Type: entry.Space, Owner: 3, State: entry.None},
		{Type: entry.Space, Owner: 3, Refs: 64, State: entry.Init},
		{Type: entry.Space, Owner: 64, State: entry.Init},
		{Type: entry.Space, State: entry.Init, Entered: true},
		{Type: entry.Thread, Owner: 3, Refs: 1},
		{Type: entry.Data, Owner: 3, State: entry.Final},
		{Type: entry.Data, Owner: -1},
		{Type: entry.Types},
		{Type: -1},
	} {
		if got := entry.Check(e); got != api.ErrEntry {
			t.Errorf("P11.1: Check(%+v) = %d", e, got)
		}
	}
}

// TestCheckAll: every entry that may be, and values of all sizes in every field, with one another.
func TestCheckAll(t *testing.T) {
	all := byEntry()
	if len(all) != 1+64*64*3+64*2+64*4 {
		t.Fatalf("the plain list has %d entries", len(all))
	}
	for e := range all {
		if got := entry.Check(e); got != api.OK {
			t.Fatalf("P11.1: Check(%+v) = %d", e, got)
		}
	}
	every(func(e entry.Entry) {
		_, ok := all[e]
		if got := entry.Check(e); got != errUnless(ok) {
			t.Fatalf("P11.1: Check(%+v) = %d; want %d", e, got, errUnless(ok))
		}
	})
}

// every: each wild number in each field, beside all types and states, those next to them too.
func every(look func(entry.Entry)) {
	for kind := entry.Type(-2); kind < 10; kind++ {
		for state := entry.State(-2); state < 7; state++ {
			for _, owner := range wild {
				for _, refs := range wild {
					look(entry.Entry{Type: kind, Owner: owner, Refs: refs, State: state})
					look(entry.Entry{Type: kind, Owner: owner, Refs: refs, State: state, Entered: true})
				}
			}
		}
	}
	for _, a := range wild {
		for _, b := range wild {
			look(entry.Entry{Type: entry.Type(a), State: entry.State(b)})
			look(entry.Entry{Type: entry.Type(a), Owner: b})
			look(entry.Entry{Type: entry.Type(a), Owner: 5, Entered: true})
			look(entry.Entry{Type: entry.Space, Owner: a, State: entry.State(b)})
			look(entry.Entry{Type: entry.Space, Refs: a, State: entry.State(b)})
		}
	}
}
