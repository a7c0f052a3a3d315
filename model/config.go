package model

import (
	"slices"

	"warden/api"
	"warden/monitor"
)

// mayBe: is there a machine of this configuration?
func mayBe(c monitor.Config) bool {
	if c.Secure < 1 || c.Secure > api.MaxSecure || c.Insecure < 1 || c.Insecure > api.MaxInsecure {
		return false
	}
	long := func(stream []uint32) bool { return len(stream) > api.MaxDraws }
	return len(c.Streams) <= api.MaxStreams && !slices.ContainsFunc(c.Streams, long)
}

// copied: the streams too, so that whoever has the other one can't change this one's draws.
func copied(c monitor.Config) monitor.Config {
	streams := make([][]uint32, len(c.Streams))
	for k, stream := range c.Streams {
		streams[k] = copyOf(stream)
	}
	c.Streams = streams
	return c
}

// copyOf: in memory of its own; of no words none.
func copyOf(words []uint32) []uint32 {
	if len(words) == 0 {
		return nil
	}
	own := make([]uint32, len(words))
	copy(own, words)
	return own
}

// streamOf: the draws of a birth; none, if there is no such stream.
func streamOf(c monitor.Config, birth int) []uint32 {
	if birth >= len(c.Streams) {
		return nil
	}
	return c.Streams[birth]
}

// sameConfig: by the draws of every birth that there can be, so that it doesn't matter whether a stream without draws is there.
func sameConfig(a, b monitor.Config) bool {
	if a.Secure != b.Secure || a.Insecure != b.Insecure || a.Seed != b.Seed {
		return false
	}
	for birth := range api.MaxStreams {
		if !slices.Equal(streamOf(a, birth), streamOf(b, birth)) {
			return false
		}
	}
	return true
}
