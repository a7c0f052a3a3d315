package image_test

import (
	"slices"
	"testing"

	"warden/api"
	"warden/image"
)

// roomy: parts with spare room behind them and behind each one's words, which is filled.
func roomy(parts []image.Part) image.Image {
	all := slices.Clone(parts)
	for k, p := range all {
		all[k].Words = append(slices.Grow(slices.Clone(p.Words), 1100), slices.Repeat([]uint32{0xabcd}, 1100)...)[:len(p.Words)]
	}
	return imageOf(append(slices.Grow(all, 3), spare(), thread(7), table(9))[:len(parts)]...)
}

// isRoomy: it is as it was, with what stands behind.
func isRoomy(t *testing.T, what string, i image.Image, parts []image.Part) {
	t.Helper()
	n := len(parts)
	if !sameParts(i.Parts, parts) || !sameParts(i.Parts[n:n+3], []image.Part{spare(), thread(7), table(9)}) {
		t.Errorf("P23.8: %s changes the parts that were handed in", what)
	}
	for _, p := range i.Parts {
		behind := p.Words[len(p.Words):cap(p.Words)]
		if !slices.Equal(behind[:1100], slices.Repeat([]uint32{0xabcd}, 1100)) {
			t.Errorf("P23.8: %s changes what stands behind a part's words", what)
		}
	}
}

func manyParts() []image.Part {
	return []image.Part{table(0), data(0, "rw", 1, 2, 3), spare(), data(0x1000, "r"), share(0x2000, "r"), data(0x3000, "rx", slices.Repeat([]uint32{7}, 1024)...), thread(5), spare(), data(0x4000, "r", 1, 2, 3)}
}

func TestHandedInStays(t *testing.T) {
	parts := manyParts()
	i := roomy(parts)
	secure, shares := append(ordered(10, 20), 99, 98)[:10], append([]int{5}, 77)[:1]
	for name, call := range map[string]func(){
		"Check": func() { image.Check(i) }, "Print": func() { image.Print(i) }, "Needs": func() { image.Needs(i) }, "Measure": func() { image.Measure(i) },
		"Plan": func() {
			steps, e := image.Plan(i, secure, shares, 6)
			if e != api.OK {
				t.Errorf("P23.6: Plan: %d", e)
			}
			wipe(steps)
		},
		"Plan, refused": func() { image.Plan(i, secure, secure, 6) },
	} {
		call()
		isRoomy(t, name, i, parts)
	}
	if !slices.Equal(secure[:12], append(ordered(10, 20), 99, 98)) || !slices.Equal(shares[:2], []int{5, 77}) {
		t.Errorf("rule 5: Plan changes the pages that it was handed: %v, %v", secure[:12], shares[:2])
	}
	i.Parts = append(i.Parts, image.Part{})
	image.Check(i)
	if i.Parts[len(parts)].Kind != 0 {
		t.Error("rule 5: Check changes a part that may not be")
	}
}

// wipe: all that a plan reaches, its spare room too.
func wipe(steps []image.Step) {
	for _, s := range steps {
		clear(s.Words[:cap(s.Words)])
	}
	clear(steps[:cap(steps)])
}

func TestPlansAreNewMemory(t *testing.T) {
	i := roomy(manyParts())
	want := plainPlan(i.Parts, ordered(10, 0), []int{1}, 0)
	steps, _ := image.Plan(i, ordered(10, 0), []int{1}, 0)
	again, _ := image.Plan(i, ordered(10, 0), []int{1}, 0)
	for k := range steps {
		wipe(steps[k : k+1 : k+1])
		if !sameSteps(steps[k+1:], want[k+1:]) {
			t.Errorf("P23.8: the step %d shares words with a later one", k)
		}
	}
	wipe(steps)
	if !sameSteps(again, want) {
		t.Error("P23.8: two plans share words")
	}
	for k := range i.Parts {
		clear(i.Parts[k].Words[:cap(i.Parts[k].Words)])
	}
	if !sameSteps(again, want) {
		t.Error("P23.8: a plan shares words with the image that was handed in")
	}
}

func TestReadPartsAreNewMemory(t *testing.T) {
	const s = "table 0\ndata 0 r\nword 1 2 3\nend\ndata 0x1000 r\nfill 4 9\nend\ndata 0x2000 r\ncode\nword 5\ndone\nend\ndata 0x3000 r\ncode\nword 5\ndone\nend\ndata 0x4000 r\nend\n"
	want := []image.Part{table(0), data(0, "r", 1, 2, 3), data(0x1000, "r", 9, 9, 9, 9), data(0x2000, "r", 5), data(0x3000, "r", 5), data(0x4000, "r")}
	a, _ := image.Parse(s)
	b, _ := image.Parse(s)
	for k, p := range a.Parts {
		words := p.Words[:cap(p.Words)]
		for n := range words {
			words[n] = 0xdead
		}
		if !sameParts(a.Parts[k+1:], want[k+1:]) {
			t.Errorf("P23.8: the part %d shares words with a later one", k)
		}
	}
	clear(a.Parts[:cap(a.Parts)])
	if !sameParts(b.Parts, want) {
		t.Errorf("P23.8: two answers of Parse share words: %+v", b)
	}
}

// What a part would grow into is its own too.
func TestReadPartsGrowAlone(t *testing.T) {
	i, _ := image.Parse("table 0\ndata 0 r\nword 1 2 3\nend\ndata 0x1000 r\nword 4 5 6 7 8\nend\n")
	for k := range i.Parts {
		i.Parts[k].Words = append(i.Parts[k].Words, 9, 9, 9)
	}
	if !slices.Equal(i.Parts[1].Words, []uint32{1, 2, 3, 9, 9, 9}) || !slices.Equal(i.Parts[2].Words, []uint32{4, 5, 6, 7, 8, 9, 9, 9}) {
		t.Errorf("P23.8: two parts share their spare room: %+v", i)
	}
}
