package image_test

import (
	"testing"

	"warden/api"
	"warden/asm"
	"warden/image"
)

const example = "table 0\ndata 0x1000 rx\ncode\nsvc 0\ndone\nend\nthread 0x1000\n"

// program: the words of a program.
func program(t *testing.T, source string, base uint32) []uint32 {
	t.Helper()
	words, f := asm.Assemble(source, base)
	if f.Err != api.OK {
		t.Fatalf("no program: %q: %+v", source, f)
	}
	return words
}

func TestExampleOfCode(t *testing.T) {
	exit := program(t, "svc 0", 0)
	takes(t, example, table(0), data(0x1000, "rx", exit...), thread(0x1000))
	i, _ := image.Parse(example)
	if secure, shares, e := image.Needs(i); secure != 5 || shares != 0 || e != api.OK {
		t.Errorf("P23.4: Needs = %d, %d, %d", secure, shares, e)
	}
	want := "table 0\ndata 0x00001000 rx\nword " + plainWords(exit)[len("word "):] + "end\nthread 0x00001000\n"
	if s, e := image.Print(i); s != want || e != api.OK {
		t.Errorf("P23.3: Print = %q, %d; want %q", s, e, want)
	}
}

func TestExamplesOfFaults(t *testing.T) {
	refuses(t, "data 0x1000 r\nend\n", api.ErrImage, 1)
	refuses(t, "table 0\ntable 0\n", api.ErrImage, 2)
	for _, s := range []string{"table 256\n", "table\n", "table 0 0\n", "tables 0\n", "\"table\" 0\n", "end\n", "share 0x1000 rx\n"} {
		refuses(t, s, api.ErrImage, 1)
	}
	refuses(t, "table 0\ndata 0x1000 r\n", api.ErrImage, 2)
	refuses(t, "table \"0\n", api.ErrQuote, 1)
	takes(t, "# x\n\n")
	takes(t, "")
}

func TestExampleOfPrint(t *testing.T) {
	i := imageOf(table(0), data(0x1000, "r", 1, 2, 2, 2, 2, 3, 0))
	want := "table 0\ndata 0x00001000 r\nword 0x00000001\nfill 4 0x00000002\nword 0x00000003 0x00000000\nend\n"
	if s, e := image.Print(i); s != want || e != api.OK {
		t.Errorf("P23.3: Print = %q, %d; want %q", s, e, want)
	}
}

func TestExampleOfPlan(t *testing.T) {
	i, _ := image.Parse(example)
	page := wholePage(program(t, "svc 0", 0))
	steps, e := image.Plan(i, []int{4, 5, 6, 7, 9}, nil, 0)
	want := []image.Step{
		{Call: 10, A: 4, B: 5}, {Call: 12, A: 4, B: 6}, {Lay: true, Words: page}, {Call: 13, A: 4, B: 7, C: 0x1005},
		{Call: 11, A: 4, B: 9, C: 0x1000}, {Call: 16, A: 4},
	}
	if e != api.OK || !sameSteps(steps, want) {
		t.Errorf("P23.6: Plan = %+v, %d", steps, e)
	}
	refusesPages(t, i, []int{4, 5, 6, 7, 9}, nil, 64)
	refusesPages(t, i, []int{4, 5, 6, 7}, nil, 0)
	refusesPages(t, i, []int{4, 5, 6, 7, 4}, nil, 0)
}

func TestExampleOfNothing(t *testing.T) {
	empty := [8]uint32{0xe3b0c442, 0x98fc1c14, 0x9afbf4c8, 0x996fb924, 0x27ae41e4, 0x649b934c, 0xa495991b, 0x7852b855}
	for _, i := range []image.Image{{}, {Parts: []image.Part{}}, imageOf(spare()), imageOf(spare(), spare())} {
		if m, e := image.Measure(i); m != empty || e != api.OK {
			t.Errorf("P23.5: Measure of %+v: %x, %d", i, m, e)
		}
		holds(t, i.Parts)
	}
	if s, e := image.Print(image.Image{}); s != "" || e != api.OK {
		t.Errorf("P23.3: Print of the empty image: %q, %d", s, e)
	}
	steps, e := image.Plan(image.Image{}, []int{63, 0}, nil, 63)
	if want := []image.Step{{Call: 10, A: 63}, {Call: 16, A: 63}}; e != api.OK || !sameSteps(steps, want) {
		t.Errorf("P23.6: Plan of the empty image: %+v, %d", steps, e)
	}
}
