package measure_test

import (
	"math/rand"
	"slices"
	"testing"

	"warden/api"
	"warden/measure"
)

func TestCollideExamples(t *testing.T) {
	for _, a := range [][]measure.Op{nil, {}, {thread(0)}, {data(1), table(0)}, pages(255)} {
		collides(t, "a list and itself", a, a, api.ErrArg)
		collides(t, "a list and its copy", a, copied(a), api.ErrArg)
	}
	collides(t, "nil and none", nil, []measure.Op{}, api.ErrArg)
	collides(t, "two threads", []measure.Op{thread(0)}, []measure.Op{thread(1)}, api.ErrArg)
	ill := []measure.Op{{}}
	collides(t, "an ill list and a long one", ill, pages(256), api.ErrOps)
	collides(t, "a long list and an ill one", pages(256), ill, api.ErrLong)
}

func TestCollideErrors(t *testing.T) {
	good, long := []measure.Op{thread(0)}, threads(most/2+1)
	for _, none := range illOps() {
		ill := []measure.Op{share(1), none}
		collides(t, "an ill list", ill, good, api.ErrOps)
		collides(t, "an ill list, the second", good, ill, api.ErrOps)
		collides(t, "ill lists", ill, ill, api.ErrOps)
		collides(t, "ill and long", ill, long, api.ErrOps)
		collides(t, "long and ill", long, ill, api.ErrLong)
	}
	collides(t, "a long list", long, good, api.ErrLong)
	collides(t, "a long list, the second", good, long, api.ErrLong)
	collides(t, "a long list and itself", long, long, api.ErrLong)
}

// Of lists that are tried the measurements are alike just if the lists are, as far as anybody knows: so Collide refuses all of them.
func TestCollideOfManyLists(t *testing.T) {
	r := rand.New(rand.NewSource(155))
	for range 300 {
		a, b := someOps(r, 4), someOps(r, 4)
		if r.Intn(3) == 0 {
			b = copied(a)
			if len(b) > 0 && r.Intn(2) == 0 {
				b[r.Intn(len(b))].Arg ^= 1
			}
		}
		x, _ := measure.Measure(a)
		y, _ := measure.Measure(b)
		if (x == y) != sameOps(a, b) {
			t.Fatalf("P15.6: Measure of two lists: %08x, %08x", x, y)
		}
		collides(t, "random lists", a, b, api.ErrArg)
		collides(t, "random lists, turned", slices.Clone(b), a, api.ErrArg)
	}
}
