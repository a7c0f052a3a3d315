package build

import (
	"warden/api"
	"warden/entry"
	"warden/pagedb"
	"warden/space"
)

// insist: gives up with the code, unless it is so.
func insist(so bool, code api.Code) {
	if !so {
		panic(code)
	}
}

// codeOf: the code with which a check gave up.
func codeOf(fault any) api.Code { return fault.(api.Code) }

// securePage: the page that a word names, which is held against the number of pages as it stands, so that no bit of it is lost.
func securePage(d *pagedb.DB, w uint32) int {
	insist(w < uint32(d.Pages()), api.CodePage)
	return int(w)
}

func insecurePage(d *pagedb.DB, w uint32) api.Frame {
	insist(w < uint32(d.Memory().Insecure()), api.CodeInsecure)
	return api.Frame{Page: int(w)}
}

func insistFree(d *pagedb.DB, page int) {
	e, _ := d.Entry(page)
	insist(e.Type == entry.Free, api.CodeUsed)
}

// parsed: what a mapping word says.
func parsed(w uint32) space.Mapping {
	m, e := space.Parse(w)
	insist(e == api.OK, api.CodeMapping)
	return m
}
