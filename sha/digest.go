package sha

import "warden/api"

// StateWords: of a saved state.
const StateWords = 26

const (
	mostWords = 1 << 55

	// Where the parts of a saved state stand: the state itself is the first.
	savedHigh = 8
	savedLow  = 9
	savedWait = 10
)

// Digest: words on their way into a sum.
type Digest struct {
	state [8]uint32          // behind the whole blocks
	count int64              // of all words so far
	wait  [blockWords]uint32 // behind the whole blocks: the first count modulo 16 of these
}

// New: of none yet.
func New() *Digest { return &Digest{state: First()} }

// waiting: the words behind the whole blocks, cut so that append lays what it makes elsewhere.
func (d *Digest) waiting() []uint32 {
	n := int(d.count % blockWords)
	return d.wait[:n:n]
}

// Add: more words.
func (d *Digest) Add(words []uint32) {
	if int64(len(words)) > mostWords-d.count {
		return
	}
	state, rest := blocks(d.state, append(d.waiting(), words...))
	d.state = state
	d.count += int64(len(words))
	n := copy(d.wait[:], rest)
	clear(d.wait[n:])
}

// Len: how many words so far.
func (d *Digest) Len() int64 { return d.count }

// Sum: of the words so far; more may be added behind it.
func (d *Digest) Sum() [8]uint32 {
	return d.finish([]uint32{endWord}, uint64(d.count)*wordBits)
}

// finish: the sum, if this end (with the end bit in it) stands behind the words so far and the message without that bit is so many bits long.
func (d *Digest) finish(end []uint32, bits uint64) [8]uint32 {
	tail := append(d.waiting(), end...)
	for len(tail)%blockWords != blockWords-lengthWords {
		tail = append(tail, 0)
	}
	state, _ := blocks(d.state, append(tail, high(bits), low(bits)))
	return state
}

// Copy: another one of the same words.
func (d *Digest) Copy() *Digest {
	c := *d
	return &c
}

// Save: the state as StateWords words: the state behind the whole blocks, the number of words so far (the higher half first), the words that wait, and zeros.
func (d *Digest) Save() [StateWords]uint32 {
	var saved [StateWords]uint32
	copy(saved[:], d.state[:])
	saved[savedHigh] = high(uint64(d.count))
	saved[savedLow] = low(uint64(d.count))
	copy(saved[savedWait:], d.waiting())
	return saved
}

// Load: the other way round: ErrSaved for all words that Save never gives by their form.
func Load(words []uint32) (*Digest, api.Errno) {
	if len(words) != StateWords {
		return nil, api.ErrSaved
	}
	state := [8]uint32(words)
	count := uint64(words[savedHigh])<<wordBits | uint64(words[savedLow])
	if count > mostWords || count < blockWords && state != First() {
		return nil, api.ErrSaved
	}
	d := &Digest{state: state, count: int64(count), wait: [blockWords]uint32(words[savedWait:])}
	// Save gives only the words that wait: one behind them that isn't 0 shows here.
	if d.Save() != [StateWords]uint32(words) {
		return nil, api.ErrSaved
	}
	return d, api.OK
}
