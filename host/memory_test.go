package host_test

import (
	"slices"
	"testing"

	"warden/api"
	"warden/host"
	"warden/image"
)

// spoil: what was told, and the room behind it, is written over.
func spoil[T any](told []T, with T) {
	for k := range told[:cap(told)] {
		told[:cap(told)][k] = with
	}
	_ = append(told, with, with)
}

// What is told is the caller's: whatever is written there, the host goes on as it was, and tells the same again.
func TestAnswersAreNew(t *testing.T) {
	w := made(t, 30, 5)
	for id := range 3 {
		w.loads(program(t, plus, "share 0x4000 rw"), id)
	}
	w.drop(1)
	w.grow(0)
	for range 3 {
		live := w.h.Live()
		pages, _ := w.h.Pages(0)
		others, _ := w.h.Pages(2)
		done, _ := w.turns([]host.Job{{}, {Id: 2, A: 7}, {Id: 1}}, 9, 2)
		want := []host.Done{{Value: 1, Turns: 1}, {Value: 8, Turns: 1}, {Err: api.ErrUnknown}}
		if !slices.Equal(live, []int{0, 2}) || !slices.Equal(pages, []int{0, 1, 2, 3, 4, 5}) || !slices.Equal(others, []int{10, 11, 12, 13, 14}) || !slices.Equal(done, want) {
			t.Fatalf("P24.9: what is told is kept: %v, %v, %v, %v", live, pages, others, done)
		}
		spoil(live, 1)
		spoil(pages, 63)
		spoil(others, -1)
		spoil(done, host.Done{Turns: -1})
		w.same("writing into answers")
	}
	w.grow(0)
	w.hasPages(0, 0, 1, 2, 3, 4, 5, 6)
}

// An image is neither changed nor kept, nor is the room behind its lists.
func TestImagesStay(t *testing.T) {
	w := made(t, 40, 8)
	i := mixed(t)
	roomy := func() image.Image {
		parts := slices.Clone(i.Parts)
		for k, p := range parts {
			parts[k].Words = append(slices.Clone(p.Words), slices.Repeat([]uint32{0xabcd}, 1100)...)[:len(p.Words)]
		}
		return image.Image{Parts: append(parts, image.Part{Kind: image.Spare}, image.Part{Kind: image.Spare})[:len(parts)]}
	}
	given := roomy()
	w.loads(given, 0)
	if id, e := w.load(image.Image{Parts: given.Parts[:len(given.Parts)+2]}); id != 1 || e != api.OK {
		t.Errorf("P24.9: Load with the spare room behind: %d, %d", id, e)
	}
	again := roomy()
	if len(given.Parts) != len(again.Parts) {
		t.Fatal("P24.9: another number of parts")
	}
	for k, p := range given.Parts {
		want := again.Parts[k]
		if p.Kind != want.Kind || p.Index != want.Index || p.VA != want.VA || p.Write != want.Write || p.Exec != want.Exec || !slices.Equal(p.Words, want.Words) ||
			!slices.Equal(p.Words[:len(p.Words)+1100], want.Words[:len(p.Words)+1100]) {
			t.Errorf("P24.9: the part %d of what was handed in is %+v", k, p)
		}
	}
	for k := range given.Parts {
		spoil(given.Parts[k].Words, 0)
	}
	spoil(given.Parts, image.Part{})
	w.numbered(0)
	w.numbered(1)
	want, _ := image.Measure(i)
	if w.measured(0) != want {
		t.Errorf("P24.8: the measurement is %x; want %x", w.measured(0), want)
	}
}

// Jobs are neither changed nor kept.
func TestJobsStay(t *testing.T) {
	w := made(t, 20, 3)
	w.loads(program(t, plus), 0)
	w.loads(program(t, loop), 1)
	all := []host.Job{{A: 1}, {Id: 1}, {Id: 7, Thread: -2, A: 3, B: 4, C: 5}, {A: 9}, {A: 10}}
	given := slices.Clone(all)
	for range 3 {
		w.h.Turns(given[:3], 5, 3)
		w.p.turns(given[:3], 5, 3)
		if !slices.Equal(given, all) {
			t.Errorf("P24.9: the jobs are %+v", given)
		}
		w.same("Turns")
	}
	spoil(given, host.Job{Id: 1})
	w.goesOn(1, 0, 5, api.CodeInterrupted, 0)
}

// Two hosts that are asked the same, in turn, answer the same.
func TestHostsAnswerAlike(t *testing.T) {
	a, b := made(t, 30, 5), made(t, 30, 5)
	for _, w := range []world{a, b, a, b} {
		w.load(mixed(t))
		w.turns([]host.Job{{A: 1}, {Thread: 1}, {Id: 1, Thread: 2}}, 3, 5)
		w.grow(0)
	}
	sameMachines(t, "the same calls", a.h.Machine(), b.h.Machine())
}
