package image_test

import (
	"math/rand"
	"slices"
	"testing"

	"warden/api"
	"warden/entry"
	"warden/image"
	"warden/model"
	"warden/monitor"
	"warden/valid"
	"warden/walk"
)

func booted(t *testing.T, secure, insecure int) *monitor.Monitor {
	t.Helper()
	m, e := monitor.New(monitor.Config{Secure: secure, Insecure: insecure})
	if e != api.OK {
		t.Fatalf("monitor.New: %d", e)
	}
	return m
}

// does: the steps of a plan, with any fuel.
func does(t *testing.T, m *monitor.Monitor, r *rand.Rand, steps []image.Step) {
	t.Helper()
	for k, s := range steps {
		if s.Lay {
			for off, w := range s.Words {
				if e := m.Write(s.Page, off, w); e != api.OK {
					t.Fatalf("P23.7: step %d: Write(%d, %d): %d", k, s.Page, off, e)
				}
			}
			continue
		}
		if code, _ := m.Do(s.Call, s.A, s.B, s.C, s.D, r.Intn(200000)-50000); code != api.CodeOK {
			t.Fatalf("P23.7: step %d: %+.200v: code %d", k, s, code)
		}
	}
}

// entries: all secure pages as they are to be, when just these parts were built of these pages.
func entries(parts []image.Part, pages int, secure []int) []entry.Entry {
	all := make([]entry.Entry, pages)
	s := secure[0]
	all[s] = entry.Entry{Type: entry.Space, Owner: s, State: entry.Final, Refs: len(secure) - 1}
	all[secure[1]] = entry.Entry{Type: entry.First, Owner: s}
	left := secure[2:]
	for _, p := range parts {
		types := map[image.Kind]entry.Type{image.Table: entry.Second, image.Data: entry.Data, image.Thread: entry.Thread, image.Spare: entry.Spare}
		if !isShare(p) {
			all[left[0]] = entry.Entry{Type: types[p.Kind], Owner: s}
			left = left[1:]
		}
	}
	return all
}

// isBuilt: a machine has what the parts say, built of these pages, and nothing else.
func isBuilt(t *testing.T, m *monitor.Monitor, parts []image.Part, secure, shares []int) {
	t.Helper()
	i := imageOf(parts...)
	for page, want := range entries(parts, m.DB().Pages(), secure) {
		if e, _ := m.DB().Entry(page); e != want {
			t.Fatalf("P23.7: page %d is %+v; want %+v", page, e, want)
		}
	}
	if clause, page := valid.Broken(m.DB()); clause != 0 {
		t.Fatalf("P23.7: %s is not so at page %d", valid.Says(clause), page)
	}
	n, e := model.Of(m)
	if e != api.OK {
		t.Fatalf("P23.7: model.Of: %d", e)
	}
	s, _ := n.Space(secure[0])
	if sum, _ := image.Measure(i); s.Measurement != sum || s.State != entry.Final || s.Draws != 0 {
		t.Fatalf("P23.7: the space is %+v; the image's measurement is %x", s, sum)
	}
	tables, maps := hasWhat(t, n, parts, secure, shares)
	if !slices.Equal(s.Tables, tables) || !slices.Equal(s.Maps, maps) {
		t.Fatalf("P23.7: the space has %+v, %+v; want %+v, %+v", s.Tables, s.Maps, tables, maps)
	}
}

// hasWhat: the tables and maps of these parts; the pages of their data and threads are looked at.
func hasWhat(t *testing.T, n *model.Model, parts []image.Part, secure, shares []int) (tables []model.Table, maps []walk.At) {
	t.Helper()
	left := secure[2:]
	for _, p := range parts {
		if isShare(p) {
			maps = append(maps, walk.At{VA: p.VA, Map: walk.Map{Frame: api.Frame{Page: shares[0]}, Write: p.Write}})
			shares = shares[1:]
			continue
		}
		page := left[0]
		left = left[1:]
		switch p.Kind {
		case image.Table:
			tables = append(tables, model.Table{Index: p.Index, Page: page})
		case image.Data:
			maps = append(maps, walk.At{VA: p.VA, Map: walk.Map{Frame: api.Frame{Secure: true, Page: page}, Write: p.Write, Exec: p.Exec}})
			if d, _ := n.Page(page); !slices.Equal(d.Words, wholePage(p.Words)) {
				t.Fatalf("P23.7: the data page %d at %#x has %x", page, p.VA, d.Words)
			}
		case image.Thread:
			if th, _ := n.Thread(page); th != (model.Thread{Owner: secure[0], Entry: p.VA}) {
				t.Fatalf("P23.7: the thread in page %d is %+v; its entry is to be %#x", page, th, p.VA)
			}
		}
	}
	slices.SortFunc(tables, func(a, b model.Table) int { return a.Index - b.Index })
	slices.SortFunc(maps, func(a, b walk.At) int { return int(a.VA) - int(b.VA) })
	return tables, maps
}

// builds: an image on a machine, by its plan.
func builds(t *testing.T, r *rand.Rand, m *monitor.Monitor, parts []image.Part, secure, shares []int, staging int) {
	t.Helper()
	steps, e := image.Plan(imageOf(parts...), secure, shares, staging)
	if e != api.OK {
		t.Fatalf("P23.6: Plan of %.200q: %d", plainPrint(parts), e)
	}
	does(t, m, r, steps)
	isBuilt(t, m, parts, secure, shares)
}

// On machines of as many pages as the plan names, and of more; the pages in any order.
func TestPlansOnMachines(t *testing.T) {
	r := rand.New(rand.NewSource(236))
	for range 400 {
		parts := some(r, 25)
		secure, shares := 2+count(parts, takesPage), count(parts, isShare)
		pages, insecure := secure+r.Intn(2)*r.Intn(65-secure), 1+shares+r.Intn(2)*r.Intn(64-shares)
		m := booted(t, pages, insecure)
		for page := range insecure {
			for range 10 {
				m.Write(page, r.Intn(1024), r.Uint32())
			}
		}
		lent := r.Perm(insecure)
		builds(t, r, m, parts, r.Perm(pages)[:secure], lent[1:1+shares], lent[0])
	}
}

// As many parts as there may be, on a machine of as many pages as there may be.
func TestGreatestPlan(t *testing.T) {
	r := rand.New(rand.NewSource(237))
	parts := []image.Part{table(0), table(255)}
	for k := range uint32(63) {
		parts = append(parts, share(k<<12, "rw"))
	}
	for k := range uint32(30) {
		parts = append(parts, data(0x3fc00000+k<<12, "rwx", someWords(r)...), []image.Part{thread(k), spare()}[k%2])
	}
	builds(t, r, booted(t, 64, 64), parts, r.Perm(64), ordered(63, 0), 63)
}

// The last birth that there may be: 63 spaces have come and gone.
func TestLastBirth(t *testing.T) {
	r := rand.New(rand.NewSource(238))
	m := booted(t, 5, 1)
	for range 63 {
		for _, call := range [][3]uint32{{api.CallSpace, 0, 1}, {api.CallStop, 0}, {api.CallRemove, 1}, {api.CallRemove, 0}} {
			if code, _ := m.Do(call[0], call[1], call[2], 0, 0, 0); code != api.CodeOK {
				t.Fatalf("call %v: code %d", call, code)
			}
		}
	}
	i, _ := image.Parse(example)
	builds(t, r, m, i.Parts, []int{4, 3, 2, 1, 0}, nil, 0)
}

// What a text says runs: two enclaves beside one another.
func TestTextsThatRun(t *testing.T) {
	r := rand.New(rand.NewSource(239))
	first, f := image.Parse("table 0\ndata 0x1000 rx\nword 41\ncode\nli r1 0x1000\nldr r0 r1 0\nadd r0 r0 r2\nsvc 0\ndone\nend\nthread 0x1004\n")
	second, g := image.Parse("thread 0x401000\ntable 1\nshare 0x400000 rw\ndata 0x401000 rx\ncode\nli r1 word\nldr r3 r1 0\nstr r3 r0 8\nsvc 0\nword: word 0x12345678\ndone\nend\n")
	if f != (image.Fault{}) || g != f {
		t.Fatalf("P23.2: %+v, %+v", f, g)
	}
	m := booted(t, 10, 3)
	steps, _ := image.Plan(first, []int{0, 2, 4, 6, 8}, nil, 0)
	does(t, m, r, steps)
	steps, _ = image.Plan(second, []int{9, 7, 5, 3, 1}, []int{2}, 0)
	does(t, m, r, steps)
	if code, value := m.Do(api.CallEnter, 8, 0, 0, 1, 100); code != api.CodeOK || value != 42 {
		t.Errorf("P23.7: the first enclave: %d, %d", code, value)
	}
	if code, value := m.Do(api.CallEnter, 5, 0x400000, 0, 0, 100); code != api.CodeOK || value != 0x400000 {
		t.Errorf("P23.7: the second enclave: %d, %#x", code, value)
	}
	if w, e := m.Read(2, 2); w != 0x12345678 || e != api.OK {
		t.Errorf("P23.7: in the shared page stands %#x, %d", w, e)
	}
}
