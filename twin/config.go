package twin

import (
	"slices"

	"warden/monitor"
)

// alikeBut: are the two configurations one, but for the stream of that birth?
func alikeBut(birth int, a, b monitor.Config) bool {
	if a.Secure != b.Secure || a.Insecure != b.Insecure || a.Seed != b.Seed {
		return false
	}
	for k := range max(len(a.Streams), len(b.Streams)) {
		// By length too: a draw that is 0 counts, though to the enclave one that isn't there is as much.
		if k != birth && !slices.Equal(stream(a, k), stream(b, k)) {
			return false
		}
	}
	return true
}

// stream: one that isn't there has no draws.
func stream(c monitor.Config, k int) []uint32 {
	if k >= len(c.Streams) {
		return nil
	}
	return c.Streams[k]
}
