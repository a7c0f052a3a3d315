package twin

import (
	"sync"

	"warden/monitor"
	"warden/view"
)

// worker: runs one of the two machines, as all but the enclave of that birth see it.
type worker struct {
	m     *monitor.Monitor
	birth int
}

// sight: what a step showed of one machine. Where it didn't run the enclave, nothing was let out.
type sight struct {
	let  view.Release
	seen view.View
}

// step: one, done and looked at.
func (w worker) step(s Step) sight {
	ran := Runs(w.m, s, w.birth)
	row := Do(w.m, s)
	told := sight{seen: w.look()}
	if ran {
		// Of an enclave that is gone by now it has nothing; of one that is there it has the space's page at least.
		told.let, _ = view.Released(w.m, w.birth, row.Code, row.Value)
	}
	return told
}

func (w worker) look() view.View { return view.Of(w.m, w.birth) }

// run: the steps, one by one, each of them told, until it is called off.
func (w worker) run(steps []Step, sights chan<- sight, done <-chan struct{}) {
	for _, s := range steps {
		told := w.step(s)
		select {
		case sights <- told:
		case <-done:
			return
		}
	}
}

// pair: the two machines.
type pair struct{ a, b worker }

func (p pair) part() string { return view.Part(p.a.look(), p.b.look()) }

// run: the steps on both at a time, up to the first at which they part; then both are called off.
func (p pair) run(steps []Step) Report {
	var workers sync.WaitGroup
	done := make(chan struct{})
	start := func(w worker) <-chan sight {
		sights := make(chan sight)
		workers.Add(1)
		go func() {
			defer workers.Done()
			w.run(steps, sights, done)
		}()
		return sights
	}
	report := follow(start(p.a), start(p.b), len(steps))
	close(done)
	workers.Wait()
	return report
}

// follow: what both show, step by step.
func follow(a, b <-chan sight, steps int) Report {
	for i := range steps {
		x, y := <-a, <-b
		if r := x.against(y); r.End != Through {
			r.Step = i
			return r
		}
	}
	return Report{Step: steps}
}

// against: how a step ended, but for its number.
func (x sight) against(y sight) Report {
	if !view.Alike(x.let, y.let) {
		return Report{End: Let}
	}
	if part := view.Part(x.seen, y.seen); part != "" {
		return Report{End: Parted, Part: part}
	}
	return Report{}
}
