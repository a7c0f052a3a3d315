package host_test

import (
	"math/rand"
	"slices"
	"testing"

	"warden/api"
	"warden/host"
	"warden/monitor"
)

// whose: the places of the jobs of one enclave, and these jobs.
func whose(jobs []host.Job, id int) (places []int, own []host.Job) {
	for k, j := range jobs {
		if j.Id == id {
			places, own = append(places, k), append(own, j)
		}
	}
	return places, own
}

// samePages: the words of an enclave's shares and of its pages are the same on both machines.
func (w world) samePages(id int, m *monitor.Monitor) {
	w.Helper()
	var frames []api.Frame
	for _, page := range had(w.p.secure, id) {
		frames = append(frames, api.Frame{Secure: true, Page: page})
	}
	for _, page := range had(w.p.insecure, id) {
		frames = append(frames, api.Frame{Page: page})
	}
	for _, f := range frames {
		for off := range 1024 {
			a, b := w.h.Machine().DB().Memory().Peek(f, off), m.DB().Memory().Peek(f, off)
			if a != b {
				w.Fatalf("P24.8: the word %d of %+v, which %d has: %#x; alone %#x", off, f, id, a, b)
			}
		}
	}
}

// apart: each enclave's jobs end beside those of others as they end alone, on a clone of the machine that was made ahead.
func (w world) apart(jobs []host.Job, fuel, most int) int {
	w.Helper()
	was := w.p.clone()
	done, _ := w.turns(jobs, fuel, most)
	held := 0
	for _, id := range w.h.Live() {
		alone := was.clone()
		places, own := whose(jobs, id)
		want, _ := alone.turns(own, fuel, most)
		for k, place := range places {
			if done[place] != want[k] {
				w.Fatalf("P24.8: the job %+v among %+v: %+v; alone %+v", jobs[place], jobs, done[place], want[k])
			}
			held++
		}
		w.samePages(id, alone.m)
	}
	return held
}

// Enclaves that count, draw and turn pages side by side do it as each does it alone.
func TestEnclavesAreApart(t *testing.T) {
	all := sources()
	w := made(t, 64, 20)
	for id := range 8 {
		w.loads(program(t, all[(id*5+2)%len(all)], "share 0x2000 rw", "spare", "data 0x4000 rw\nword 3\nend", "thread 0x1000"), id)
	}
	var jobs []host.Job
	for k := range 24 {
		id := k * 3 % 8
		spares := had(w.p.secure, id)
		jobs = append(jobs, host.Job{Id: id, Thread: k / 16, A: uint32(spares[5]), B: uint32(k), C: 1})
	}
	for _, fuel := range []int{70, 3, 1000} {
		if held := w.apart(jobs, fuel, 12); held != 24 {
			t.Errorf("%d jobs were held", held)
		}
		for id := range 8 {
			for thread := range 2 {
				w.goOn(id, thread, 50000)
			}
		}
	}
}

func TestEnclavesAreApartByChance(t *testing.T) {
	held := 0
	for seed := range int64(30) {
		r := rand.New(rand.NewSource(24000 + seed))
		c := chance{made(t, 20+r.Intn(40), 3+r.Intn(12)), r}
		for range 40 {
			c.step()
			if c.Intn(4) == 0 {
				held += c.apart(slices.Concat(c.jobs(), c.jobs()), c.fuel(), 1+c.Intn(20))
			}
		}
	}
	if held < 1000 {
		t.Errorf("%d jobs alone were held", held)
	}
}
