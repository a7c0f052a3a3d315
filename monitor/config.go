package monitor

import (
	"warden/api"
	"warden/pagedb"
)

// mayBe: is there a machine of this configuration?
func (c Config) mayBe() bool {
	if c.Secure < 1 || c.Secure > api.MaxSecure || c.Insecure < 1 || c.Insecure > api.MaxInsecure {
		return false
	}
	if len(c.Streams) > api.MaxStreams {
		return false
	}
	for _, stream := range c.Streams {
		if len(stream) > api.MaxDraws {
			return false
		}
	}
	return true
}

// fits: is the database over a memory of as many pages?
func (c Config) fits(d *pagedb.DB) bool {
	return d != nil && d.Memory().Secure() == c.Secure && d.Memory().Insecure() == c.Insecure
}

// copied: the streams too, so that whoever has the other one can't change this one's draws.
func (c Config) copied() Config {
	streams := make([][]uint32, len(c.Streams))
	for i, stream := range c.Streams {
		streams[i] = make([]uint32, len(stream))
		copy(streams[i], stream)
	}
	c.Streams = streams
	return c
}
