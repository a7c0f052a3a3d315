package asm

import (
	"testing"

	"warden/api"
)

// No text of at most MaxCode words has a jump beyond its reach: so the places are set by hand.
func TestFarJumps(t *testing.T) {
	for _, c := range []struct {
		place int
		e     api.Errno
	}{
		{32768, api.OK}, {32769, api.ErrFar}, {1 << 40, api.ErrFar}, {-32767, api.OK}, {-32768, api.ErrFar}, {-1 << 40, api.ErrFar}, {0, api.OK},
	} {
		for _, line := range []string{"  bl far", "b al far", "word far"} {
			p := &program{places: map[string]int{"far": c.place}, line: 3}
			if err := p.layLine(line); err != nil || len(p.later) != 1 {
				t.Fatalf("P6.1: %q: %v, %d labels wait", line, err, len(p.later))
			}
			want := Fault{Err: c.e, Line: 3, Col: 6}
			if line == "word far" || c.e == api.OK {
				want = Fault{}
			}
			if got := faultIn(p.later[0]()); got != want {
				t.Errorf("P6.1: %q with the label at %d: %v, want %v", line, c.place, got, want)
			}
		}
	}
}
