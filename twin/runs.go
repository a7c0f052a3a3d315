package twin

import (
	"warden/api"
	"warden/entry"
	"warden/monitor"
	"warden/pagedb"
)

// Runs: does the step run a thread of the enclave of that birth (an Enter or Resume that is taken)?
func Runs(m *monitor.Monitor, s Step, birth int) bool {
	if s.Kind != Call || s.V != api.CallEnter && s.V != api.CallResume {
		return false
	}
	// A page that there isn't is told as a free one: that is no thread either.
	thread, _ := m.DB().Entry(int(s.A))
	if thread.Type != entry.Thread || thread.Entered != (s.V == api.CallResume) {
		return false
	}
	return finalOf(m.DB(), thread.Owner, birth)
}

// finalOf: is the page that of a final space of this birth? (No page but a space's has a state.)
func finalOf(d *pagedb.DB, page, birth int) bool {
	if at, _ := d.Entry(page); at.State != entry.Final {
		return false
	}
	// Peeked at, for the meter counts what the machine touches. A birth below 0 is no word's, though as a word it would be one.
	born := d.Memory().Peek(api.Frame{Secure: true, Page: page}, entry.SpaceBirth)
	return int64(born) == int64(birth)
}
