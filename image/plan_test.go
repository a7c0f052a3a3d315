package image_test

import (
	"math"
	"math/rand"
	"slices"
	"testing"

	"warden/api"
	"warden/image"
)

func refusesPages(t *testing.T, i image.Image, secure, shares []int, staging int) {
	t.Helper()
	if steps, e := image.Plan(i, secure, shares, staging); len(steps) != 0 || e != api.ErrPages {
		t.Errorf("P23.6: Plan with %v, %v, %d: %d steps, %d; want ErrPages", secure, shares, staging, len(steps), e)
	}
}

func takesPages(t *testing.T, i image.Image, secure, shares []int, staging int) {
	t.Helper()
	steps, e := image.Plan(i, secure, shares, staging)
	if e != api.OK || !sameSteps(steps, plainPlan(i.Parts, secure, shares, staging)) {
		t.Errorf("P23.6: Plan with %v, %v, %d: %+.200v, %d", secure, shares, staging, steps, e)
	}
}

// All kinds, the spare ones in front and between: their pages are told by their place, their calls come last.
func TestPlannedSteps(t *testing.T) {
	i := imageOf(spare(), table(1), thread(0xffffffff), data(0x400000, "rw", 1, 2), spare(), share(0x401000, "rw"), data(0x402000, "x"), share(0x403000, "r"), table(255), share(0x3ffff000, "r"))
	secure, shares := []int{9, 8, 7, 6, 5, 4, 3, 2, 63}, []int{9, 0, 63}
	want := []image.Step{
		{Call: api.CallSpace, A: 9, B: 8},
		{Call: api.CallTable, A: 9, B: 6, C: 1},
		{Call: api.CallThread, A: 9, B: 5, C: 0xffffffff},
		{Lay: true, Page: 8, Words: wholePage([]uint32{1, 2})},
		{Call: api.CallData, A: 9, B: 4, C: 0x400003, D: 8},
		{Call: api.CallShare, A: 9, B: 0x401003, C: 9},
		{Lay: true, Page: 8, Words: wholePage(nil)},
		{Call: api.CallData, A: 9, B: 2, C: 0x402005, D: 8},
		{Call: api.CallShare, A: 9, B: 0x403001, C: 0},
		{Call: api.CallTable, A: 9, B: 63, C: 255},
		{Call: api.CallShare, A: 9, B: 0x3ffff001, C: 63},
		{Call: api.CallFinal, A: 9},
		{Call: api.CallSpare, A: 9, B: 7},
		{Call: api.CallSpare, A: 9, B: 3},
	}
	steps, e := image.Plan(i, secure, shares, 8)
	if e != api.OK || !sameSteps(steps, want) {
		t.Errorf("P23.6: Plan = %+.2000v, %d", steps, e)
	}
	takesPages(t, i, secure, shares, 8)
}

func TestRefusedPages(t *testing.T) {
	i := imageOf(table(0), share(0, "r"), share(0x1000, "rw"))
	takesPages(t, i, []int{0, 1, 2}, []int{0, 1}, 2)
	takesPages(t, i, []int{63, 1, 0}, []int{63, 0}, 1)
	takesPages(t, i, []int{0, 63, 2}, []int{0, 1}, 63)
	for _, secure := range [][]int{nil, {0}, {0, 1}, {0, 1, 2, 3}, {0, 1, 1}, {1, 0, 1}, {1, 1, 0}, {0, 1, 64}, {64, 1, 2}, {-1, 1, 2}, {0, 1, math.MaxInt}, {0, math.MinInt, 1}, {0, 1 << 32, 1}, ordered(64, 0), ordered(1<<20, 0)} {
		refusesPages(t, i, secure, []int{0, 1}, 2)
	}
	for _, shares := range [][]int{nil, {0}, {0, 1, 3}, {0, 0}, {1, 64}, {64, 1}, {-1, 1}, {1, math.MinInt}, {math.MaxInt, 1}, {2, 1}, {1, 2}, {0, 1 << 32}, ordered(1<<20, 0)} {
		refusesPages(t, i, []int{0, 1, 2}, shares, 2)
	}
	for _, staging := range []int{-1, 64, 0, 1, math.MaxInt, math.MinInt, 1 << 32, -64} {
		refusesPages(t, i, []int{0, 1, 2}, []int{0, 1}, staging)
	}
	refusesPages(t, image.Image{}, nil, nil, 0)
	refusesPages(t, image.Image{}, []int{0}, nil, 0)
	refusesPages(t, image.Image{}, []int{0, 1}, []int{1}, 0)
	refusesPages(t, image.Image{}, []int{0, 0}, nil, 0)
	refusesPages(t, image.Image{}, []int{0, 1}, nil, -1)
	takesPages(t, image.Image{}, []int{0, 1}, []int{}, 0)
	takesPages(t, image.Image{}, []int{0, 1}, nil, 0)
}

// Every number in every place of the pages: alone it is taken or refused.
func TestEachPageNumber(t *testing.T) {
	i := imageOf(table(0), share(0, "r"))
	for n := -2; n <= 66; n++ {
		for place := range 5 {
			all := []int{10, 11, 12, 10, 11} // three secure ones, a share, staging
			all[place] = n
			may := n >= 0 && n <= 63
			for other := range all {
				near := other/3 == place/3
				if other != place && near && all[other] == n {
					may = false
				}
			}
			if may {
				takesPages(t, i, all[:3], all[3:4], all[4])
			} else {
				refusesPages(t, i, all[:3], all[3:4], all[4])
			}
		}
	}
}

// What is no image is told ahead of what is wrong with the pages.
func TestImageAheadOfPages(t *testing.T) {
	for _, i := range []image.Image{imageOf(data(0, "r")), imageOf(image.Part{}), imageOf(table(0), table(0)), imageOf(slices.Repeat([]image.Part{spare()}, 63)...)} {
		for _, staging := range []int{-1, 0, 64} {
			if steps, e := image.Plan(i, []int{0, 0}, []int{64}, staging); len(steps) != 0 || e != api.ErrImage {
				t.Errorf("P23.6: Plan of none: %d steps, %d", len(steps), e)
			}
		}
	}
}

func TestWildPlans(t *testing.T) {
	r := rand.New(rand.NewSource(235))
	for range 3000 {
		parts := some(r, 20)
		i := imageOf(parts...)
		plans(t, r, i)
		secure, shares, staging := pagesFor(r, parts)
		switch r.Intn(5) {
		case 0:
			secure = append(secure, 0)[1:]
			if slices.Contains(secure[:len(secure)-1], 0) {
				refusesPages(t, i, secure, shares, staging)
			} else {
				takesPages(t, i, secure, shares, staging)
			}
		case 1:
			refusesPages(t, i, secure[:r.Intn(len(secure))], shares, staging)
		case 2:
			refusesPages(t, i, secure, append(slices.Clone(shares), (staging+1)%64), staging)
		case 3:
			if len(shares) > 0 {
				refusesPages(t, i, secure, shares, shares[r.Intn(len(shares))])
			}
		case 4:
			k := r.Intn(len(secure))
			secure[k] = secure[(k+1)%len(secure)]
			refusesPages(t, i, secure, shares, staging)
		}
	}
}
