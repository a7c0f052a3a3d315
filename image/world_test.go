package image_test

import (
	"math/rand"
	"slices"
	"testing"

	"warden/api"
	"warden/image"
)

// reads: what Parse answers is what the chapter says; an image that it takes is printed, and read again.
func reads(t *testing.T, s string) (image.Image, image.Fault) {
	t.Helper()
	want, wantFault := plainParse(s)
	got, f := image.Parse(s)
	if f != wantFault || !sameParts(got.Parts, want) {
		t.Fatalf("P23.2: Parse(%.300q): %d parts, %+v; want %d, %+v", s, len(got.Parts), f, len(want), wantFault)
	}
	if f == (image.Fault{}) {
		holds(t, got.Parts)
	}
	return got, f
}

func refuses(t *testing.T, s string, e api.Errno, line int) {
	t.Helper()
	if _, f := reads(t, s); f != (image.Fault{Err: e, Line: line}) {
		t.Errorf("P23.2: Parse(%.300q): %+v; want %d at %d", s, f, e, line)
	}
}

func takes(t *testing.T, s string, want ...image.Part) {
	t.Helper()
	if got, f := reads(t, s); f != (image.Fault{}) || !sameParts(got.Parts, want) {
		t.Errorf("P23.2: Parse(%.300q): %+v, %+v; want %+v", s, got, f, want)
	}
}

// ordered: so many page numbers, from the first on.
func ordered(n, first int) []int {
	pages := make([]int, n)
	for k := range pages {
		pages[k] = first + k
	}
	return pages
}

// holds: all six calls of these parts, held against what the chapter says; Plan with as many pages as they would need.
func holds(t *testing.T, parts []image.Part) bool {
	t.Helper()
	i := image.Image{Parts: parts}
	secure, shares := 2+count(parts, takesPage), count(parts, isShare)
	if !isImage(parts) {
		isNone(t, i, ordered(secure, 0), ordered(shares, 1))
		return false
	}
	if e := image.Check(i); e != api.OK {
		t.Fatalf("P23.1: Check of %.200q: %d", plainPrint(parts), e)
	}
	if s, n, e := image.Needs(i); s != secure || n != shares || e != api.OK {
		t.Fatalf("P23.4: Needs of %.200q: %d, %d, %d; want %d, %d", plainPrint(parts), s, n, e, secure, shares)
	}
	if m, e := image.Measure(i); m != plainMeasure(parts) || e != api.OK {
		t.Fatalf("P23.5: Measure of %.200q: %x, %d; want %x", plainPrint(parts), m, e, plainMeasure(parts))
	}
	prints(t, i)
	plans(t, nil, i)
	return true
}

// isNone: each call refuses what is no image, whatever else it is handed.
func isNone(t *testing.T, i image.Image, secure, shares []int) {
	t.Helper()
	s, printed := image.Print(i)
	a, b, needed := image.Needs(i)
	m, measured := image.Measure(i)
	steps, planned := image.Plan(i, secure, shares, 0)
	ill, alsoIll := image.Plan(i, nil, nil, -1)
	for what, e := range map[string]api.Errno{"Check": image.Check(i), "Print": printed, "Needs": needed, "Measure": measured, "Plan": planned, "Plan with ill pages": alsoIll} {
		if e != api.ErrImage {
			t.Fatalf("P23.1: %s of %d parts, which are no image: %d", what, len(i.Parts), e)
		}
	}
	if s != "" || a != 0 || b != 0 || m != [8]uint32{} || len(steps) != 0 || len(ill) != 0 {
		t.Fatalf("rule 2: beside ErrImage: %.40q, %d, %d, %x, %d steps", s, a, b, m, len(steps)+len(ill))
	}
}

func prints(t *testing.T, i image.Image) {
	t.Helper()
	want, wantE := plainPrint(i.Parts), api.OK
	if len(want) > 65536 {
		want, wantE = "", api.ErrLong
	}
	got, e := image.Print(i)
	if got != want || e != wantE {
		t.Fatalf("P23.3: Print of %d parts: %.200q, %d; want %.200q, %d", len(i.Parts), got, e, want, wantE)
	}
	if e != api.OK {
		return
	}
	again, f := image.Parse(got)
	if f != (image.Fault{}) || !sameParts(again.Parts, i.Parts) {
		t.Fatalf("P23.3: Parse of Print, %.200q: %d parts, %+v", got, len(again.Parts), f)
	}
}

// plans: with pages in some order; of no r in theirs.
func plans(t *testing.T, r *rand.Rand, i image.Image) {
	t.Helper()
	secure, shares, staging := pagesFor(r, i.Parts)
	want := plainPlan(i.Parts, secure, shares, staging)
	got, e := image.Plan(i, secure, shares, staging)
	if e != api.OK || !sameSteps(got, want) {
		t.Fatalf("P23.6: Plan of %.200q with %v, %v, %d: %+.300v, %d; want %+.300v", plainPrint(i.Parts), secure, shares, staging, got, e, want)
	}
}

// pagesFor: pages as they may be lent for a plan.
func pagesFor(r *rand.Rand, parts []image.Part) (secure, shares []int, staging int) {
	secure, insecure := ordered(64, 0), ordered(64, 0)
	if r != nil {
		secure, insecure = r.Perm(64), r.Perm(64)
	}
	return secure[:2+count(parts, takesPage)], insecure[1 : 1+count(parts, isShare)], insecure[0]
}

// some: an image, by chance.
func some(r *rand.Rand, most int) []image.Part {
	var parts []image.Part
	for range r.Intn(most + 1) {
		if next := append(slices.Clone(parts), somePart(r)); isImage(next) {
			parts = next
		}
	}
	return parts
}

// somePart: one that may be; a few indices and addresses come often.
func somePart(r *rand.Rand) image.Part {
	va := uint32(r.Intn(3))<<22 + uint32(r.Intn(5))<<12
	if r.Intn(4) == 0 {
		va = r.Uint32() % (1 << 30) &^ 4095
	}
	access := []string{"r", "rw", "rx", "rwx"}[r.Intn(4)]
	switch r.Intn(7) {
	case 0, 1:
		return table([]int{0, 1, 2, 255, int(va >> 22), r.Intn(256)}[r.Intn(6)])
	case 2:
		return data(va, access, someWords(r)...)
	case 3, 4:
		return share(va, []string{"r", "rw"}[r.Intn(2)])
	case 5:
		return thread(r.Uint32())
	}
	return spare()
}

// someWords: with runs of all lengths.
func someWords(r *rand.Rand) []uint32 {
	most := []int{0, 3, 12, 40, 1024}[r.Intn(5)]
	var words []uint32
	for len(words) < most && r.Intn(most+1) > 0 {
		words = append(words, slices.Repeat([]uint32{r.Uint32() >> r.Intn(33)}, 1+r.Intn(7)*r.Intn(2))...)
	}
	return words[:min(most, len(words))]
}
