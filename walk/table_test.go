package walk

import (
	"testing"

	"warden/api"
	"warden/mem"
)

// Who goes through the iterator and leaves it early must not be called again, at neither level.
func TestMappedEndsWhenItIsLeft(t *testing.T) {
	m, e := mem.New(2, 1)
	if e != api.OK {
		t.Fatalf("mem.New: %d", e)
	}
	for _, off := range []int{0, 9} {
		m.Write(secure(0), off, 0x101)
		m.Write(secure(1), off, 0x107)
	}
	for most := 1; most <= 4; most++ {
		seen := 0
		for range mapped(m, 0) {
			seen++
			if seen == most {
				break
			}
		}
		if seen != most {
			t.Errorf("P9.6: %d of 4 seen, want %d", seen, most)
		}
	}
	was := m.Meter()
	for range mapped(m, 0) {
		break
	}
	if m.Meter()-was != 2 {
		t.Errorf("P9.6: to the first one %d words are touched", m.Meter()-was)
	}
}
