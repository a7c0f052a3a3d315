package attest_test

import (
	"math/rand"
	"testing"

	"warden/attest"
)

// sampled: eights at their ends, of one bit, and without an order.
func sampled() []eight {
	r := rand.New(rand.NewSource(161))
	all := []eight{{}, ones(), {1}, {7: 1}, {0x80000000}, {1, 2, 3, 4, 5, 6, 7, 8}}
	for range 6 {
		all = append(all, wild(r))
	}
	return all
}

func TestKey(t *testing.T) {
	for _, seed := range sampled() {
		if got, want := attest.Key(seed), plainTag(seed, []byte("warden key 1")); got != want {
			t.Errorf("P16.1: Key(%08x) = %08x, want %08x", seed, got, want)
		}
	}
	for bit := range 256 {
		if attest.Key(turned(eight{}, bit)) == attest.Key(eight{}) {
			t.Errorf("P16.1: the bit %d of the seed is not in the key", bit)
		}
	}
}

func TestTag(t *testing.T) {
	for _, key := range sampled() {
		for _, m := range sampled() {
			for _, d := range sampled() {
				got, want := attest.Tag(key, m, d), plainTag(key, plainBytes(m, d))
				if got != want {
					t.Fatalf("P16.2: Tag(%08x, %08x, %08x) = %08x, want %08x", key, m, d, got, want)
				}
				if !attest.Verify(key, m, d, want) {
					t.Fatalf("P16.2: Verify(%08x, %08x, %08x) of its tag is false", key, m, d)
				}
			}
		}
	}
}

// Example 1: any bit of the four turned.
func TestVerifyOfOneBit(t *testing.T) {
	r := rand.New(rand.NewSource(162))
	zero := [3]eight{attest.Key(eight{})}
	if got, want := attest.Tag(zero[0], eight{}, eight{}), plainTag(plainTag(eight{}, []byte("warden key 1")), make([]byte, 64)); got != want {
		t.Errorf("P16.2: example 1 = %08x, want %08x", got, want)
	}
	for _, of := range [][3]eight{zero, {wild(r), wild(r), wild(r)}, {{}, {}, {}}} {
		key, m, d := of[0], of[1], of[2]
		tag := attest.Tag(key, m, d)
		if !attest.Verify(key, m, d, tag) {
			t.Errorf("P16.2: Verify(%08x) of its tag is false", of)
		}
		for bit := range 256 {
			if attest.Verify(turned(key, bit), m, d, tag) || attest.Verify(key, turned(m, bit), d, tag) ||
				attest.Verify(key, m, turned(d, bit), tag) || attest.Verify(key, m, d, turned(tag, bit)) {
				t.Errorf("P16.2: Verify(%08x) with the bit %d turned is true", of, bit)
			}
		}
	}
}

func TestVerifyOfAnotherTag(t *testing.T) {
	r := rand.New(rand.NewSource(163))
	for range 50 {
		key, m, d := wild(r), wild(r), wild(r)
		tag := attest.Tag(key, m, d)
		swapped := tag
		swapped[0], swapped[7] = swapped[7], swapped[0]
		for what, wrong := range map[string]bool{
			"no tag":                attest.Verify(key, m, d, eight{}),
			"the key":               attest.Verify(key, m, d, key),
			"the measurement":       attest.Verify(key, m, d, m),
			"the data":              attest.Verify(key, m, d, d),
			"words changed places":  attest.Verify(key, m, d, swapped),
			"data and measurement":  attest.Verify(key, d, m, tag),
			"key and measurement":   attest.Verify(m, key, d, tag),
			"the measurement alone": attest.Verify(key, m, d, plainTag(key, plainBytes(m))),
			"the data alone":        attest.Verify(key, m, d, plainTag(key, plainBytes(d))),
			"data ahead":            attest.Verify(key, m, d, plainTag(key, plainBytes(d, m))),
		} {
			if wrong {
				t.Errorf("P16.2: Verify takes %s", what)
			}
		}
	}
}
