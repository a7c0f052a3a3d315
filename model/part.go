package model

import (
	"strconv"

	"warden/entry"
)

// part: where two models part first, as Part tells it.
func (m *Model) part(o *Model) string {
	if !sameConfig(m.config, o.config) {
		return "config"
	}
	if r := parting(m.registers[:], o.registers[:]); r >= 0 {
		return "register " + strconv.Itoa(r)
	}
	for page := range m.insecure {
		if off := parting(m.insecure[page], o.insecure[page]); off >= 0 {
			return "insecure " + strconv.Itoa(page) + " word " + strconv.Itoa(off)
		}
	}
	if m.births != o.births {
		return "births"
	}
	for page := range m.pages {
		if what := m.pages[page].part(o.pages[page]); what != "" {
			return "page " + strconv.Itoa(page) + " " + what
		}
	}
	return ""
}

// parting: at which of their words two lists of one length part first; -1, if they don't.
func parting(a, b []uint32) int {
	for i := range a {
		if a[i] != b[i] {
			return i
		}
	}
	return -1
}

func (r record) part(o record) string {
	switch {
	case r.kind != o.kind:
		return "type"
	case r.owner != o.owner:
		return "owner"
	}
	switch r.kind {
	case entry.Data:
		if off := parting(r.words, o.words); off >= 0 {
			return "word " + strconv.Itoa(off)
		}
	case entry.Thread:
		return r.thread.part(o.thread)
	case entry.Space:
		return r.space.part(o.space)
	}
	return ""
}

func (t thread) part(o thread) string {
	switch {
	case t.begins != o.begins:
		return "entry"
	case t.entered != o.entered:
		return "entered"
	case t.saved != o.saved:
		return "saved"
	}
	return ""
}

func (s space) part(o space) string {
	switch {
	case s.state != o.state:
		return "state"
	case s.birth != o.birth:
		return "birth"
	case s.draws != o.draws:
		return "draws"
	case s.measurement != o.measurement:
		return "measurement"
	case !s.tables.same(o.tables):
		return "tables"
	case !s.maps.same(o.maps):
		return "maps"
	case s.digest != o.digest:
		return "digest"
	}
	return ""
}
