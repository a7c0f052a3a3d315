package view_test

import (
	"slices"
	"testing"

	"warden/api"
	"warden/view"
)

// spoil: what was told, and the room behind it, is written over.
func spoil(lists ...[]uint32) {
	for _, list := range lists {
		list = list[:cap(list)]
		for k := range list {
			list[k] ^= 0xffffffff
		}
	}
}

func wordsOf(list []view.Seen) (all [][]uint32) {
	for _, s := range list[:cap(list)] {
		all = append(all, s.Words)
	}
	return all
}

// What is told is the caller's: whatever is written there, the machine goes on as it was, and the same is told again.
func TestAnswersAreNew(t *testing.T) {
	w := town(t)
	for birth := range 6 {
		w.unchanged("writing into what is told", func() {
			v := view.Of(w.m, birth)
			spoil(v.Insecure...)
			spoil(wordsOf(v.Pages)...)
			r, _ := view.Released(w.m, birth, 0, 0)
			spoil(r.Pages...)
			spoil(wordsOf(r.Metas)...)
		})
		w.held(birth)
	}
}

// apart: each list is made another one by itself; no other list becomes another one by it.
func apart(t *testing.T, lists [][]uint32) {
	t.Helper()
	for k, list := range lists {
		spoil(list)
		for j, other := range lists {
			if want := j <= k; len(other) > 0 && (other[0] == 0xffffffff-uint32(j)) != want || len(other) > 0 && (other[1023] == 0xffffffff-uint32(j)) != want {
				t.Fatalf("P25.9: the lists %d and %d share memory", k, j)
			}
		}
	}
}

// marked: each list holds its own number.
func marked(lists [][]uint32) [][]uint32 {
	for k, list := range lists {
		for off := range list {
			list[off] = uint32(k)
		}
	}
	return lists
}

func TestListsAreApart(t *testing.T) {
	w := town(t)
	v, again := view.Of(w.m, 1), view.Of(w.m, 1)
	r, _ := view.Released(w.m, 1, 0, 0)
	lists := slices.Concat(v.Insecure, wordsOf(v.Pages), again.Insecure, wordsOf(again.Pages), r.Pages, wordsOf(r.Metas))
	apart(t, marked(lists))
	w.held(1)
}

// No page's words have room behind them that another list stands in, nor has the list of pages.
func TestRoomBehind(t *testing.T) {
	w := town(t)
	v := view.Of(w.m, 1)
	for page := range v.Insecure {
		_ = append(v.Insecure[page], 1, 2, 3)
	}
	for page := range v.Pages {
		_ = append(v.Pages[page].Words, 1, 2, 3)
	}
	if part := plainPart(v, plainOf(w.m, 1)); part != "" {
		t.Errorf("P25.9: %s", part)
	}
}

// The draws that are handed in are neither kept nor changed, nor is the room behind them.
func TestDrawsAreNotKept(t *testing.T) {
	w := town(t)
	room := []uint32{1, 2, 3, 4, 5}
	p, e := view.Plant(w.m, 2, 5, room[:2])
	if e != api.OK || !slices.Equal(room, []uint32{1, 2, 3, 4, 5}) {
		t.Fatalf("P25.9: %d, the draws are %v", e, room)
	}
	room[0], room[2] = 9, 9
	if got := p.Config().Streams[2]; !slices.Equal(got, []uint32{1, 2}) {
		t.Errorf("P25.9: the draws are %v", got)
	}
	if got := w.m.Config().Streams; len(got) != 5 || len(got[2]) != 0 {
		t.Errorf("P25.9: the machine's own streams are %v", got)
	}
}

// The same is answered whoever asks again, and whatever was asked between.
func TestAnswersAgain(t *testing.T) {
	w := town(t)
	for range 3 {
		for birth := range 6 {
			was := tells(w.m, birth)
			w.plant(birth, 1, nil)
			view.Of(w.m, birth+1)
			if !was.like(tells(w.m, birth)) || !was.like(tells(w.m.Clone(), birth)) {
				t.Errorf("rule 6: birth %d", birth)
			}
		}
	}
}
