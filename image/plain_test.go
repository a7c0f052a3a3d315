package image_test

import (
	"crypto/sha256"
	"encoding/binary"
	"fmt"
	"reflect"
	"regexp"
	"slices"
	"strconv"
	"strings"

	"warden/api"
	"warden/asm"
	"warden/image"
	"warden/text"
)

// Parts, as the tests write them.
func table(index int) image.Part { return image.Part{Kind: image.Table, Index: index} }
func data(va uint32, access string, words ...uint32) image.Part {
	return image.Part{Kind: image.Data, VA: va, Write: strings.Contains(access, "w"), Exec: strings.Contains(access, "x"), Words: words}
}
func share(va uint32, access string) image.Part {
	return image.Part{Kind: image.Share, VA: va, Write: access == "rw"}
}
func thread(entry uint32) image.Part { return image.Part{Kind: image.Thread, VA: entry} }
func spare() image.Part              { return image.Part{Kind: image.Spare} }

func imageOf(parts ...image.Part) image.Image { return image.Image{Parts: parts} }

// sameParts: nil and empty words are the same.
func sameParts(a, b []image.Part) bool {
	return slices.EqualFunc(a, b, func(p, q image.Part) bool {
		same := slices.Equal(p.Words, q.Words)
		p.Words, q.Words = nil, nil
		return same && reflect.DeepEqual(p, q)
	})
}

func sameSteps(a, b []image.Step) bool {
	return slices.EqualFunc(a, b, func(p, q image.Step) bool {
		same := slices.Equal(p.Words, q.Words)
		p.Words, q.Words = nil, nil
		return same && reflect.DeepEqual(p, q)
	})
}

// isPart: the chapter's table, row by row.
func isPart(p image.Part) bool {
	onlyWords := func(n int) bool { return len(p.Words) <= n }
	page := p.VA%4096 == 0 && p.VA < 1<<30
	switch p.Kind {
	case image.Table:
		return p.Index >= 0 && p.Index <= 255 && p.VA == 0 && !p.Write && !p.Exec && onlyWords(0)
	case image.Data:
		return p.Index == 0 && page && onlyWords(1024)
	case image.Share:
		return p.Index == 0 && page && !p.Exec && onlyWords(0)
	case image.Thread:
		return p.Index == 0 && !p.Write && !p.Exec && onlyWords(0)
	case image.Spare:
		return p.Index == 0 && p.VA == 0 && !p.Write && !p.Exec && onlyWords(0)
	}
	return false
}

func isMapped(p image.Part) bool { return p.Kind == image.Data || p.Kind == image.Share }

func count(parts []image.Part, so func(image.Part) bool) int {
	n := 0
	for _, p := range parts {
		if so(p) {
			n++
		}
	}
	return n
}

func isShare(p image.Part) bool    { return p.Kind == image.Share }
func takesPage(p image.Part) bool  { return !isShare(p) }
func isSpare(p image.Part) bool    { return p.Kind == image.Spare }
func isMeasured(p image.Part) bool { return !isSpare(p) }

// isImage: the chapter's sentences, each part held against all ahead of it.
func isImage(parts []image.Part) bool {
	for k, p := range parts {
		ahead := parts[:k]
		if !isPart(p) {
			return false
		}
		hasTable := func(index uint32) bool {
			return slices.ContainsFunc(ahead, func(q image.Part) bool { return q.Kind == image.Table && uint32(q.Index) == index })
		}
		if p.Kind == image.Table && hasTable(uint32(p.Index)) {
			return false
		}
		if isMapped(p) && (!hasTable(p.VA>>22&255) || slices.ContainsFunc(ahead, func(q image.Part) bool { return isMapped(q) && q.VA == p.VA })) {
			return false
		}
	}
	return count(parts, takesPage) <= 62 && count(parts, isShare) <= 63
}

func plainAccess(write, exec bool) string {
	s := "r"
	if write {
		s += "w"
	}
	if exec {
		s += "x"
	}
	return s
}

// plainPrint: a data page's words are cut by a pattern over letters: one letter for each word, the same for the same.
func plainPrint(parts []image.Part) string {
	var s strings.Builder
	for _, p := range parts {
		switch p.Kind {
		case image.Table:
			fmt.Fprintf(&s, "table %d\n", p.Index)
		case image.Data:
			fmt.Fprintf(&s, "data 0x%08x %s\n", p.VA, plainAccess(p.Write, p.Exec))
			s.WriteString(plainWords(p.Words))
			s.WriteString("end\n")
		case image.Share:
			fmt.Fprintf(&s, "share 0x%08x %s\n", p.VA, plainAccess(p.Write, false))
		case image.Thread:
			fmt.Fprintf(&s, "thread 0x%08x\n", p.VA)
		case image.Spare:
			s.WriteString("spare\n")
		}
	}
	return s.String()
}

// plainWords: first all runs; those of four or more have a line, what stands between them is cut into eights.
func plainWords(words []uint32) string {
	var lines []string
	var waits []string
	flush := func() {
		for chunk := range slices.Chunk(waits, 8) {
			lines = append(lines, "word "+strings.Join(chunk, " "))
		}
		waits = nil
	}
	for k := 0; k < len(words); {
		end := k + 1
		for end < len(words) && words[end] == words[k] {
			end++
		}
		if end-k >= 4 {
			flush()
			lines = append(lines, fmt.Sprintf("fill %d 0x%08x", end-k, words[k]))
		} else {
			for range end - k {
				waits = append(waits, fmt.Sprintf("0x%08x", words[k]))
			}
		}
		k = end
	}
	flush()
	return strings.Join(append(lines, ""), "\n")
}

// wholePage: a part's words, with zeros up to a page.
func wholePage(words []uint32) []uint32 {
	return append(slices.Clone(words), make([]uint32, 1024-len(words))...)
}

func mappingWord(p image.Part) uint32 {
	w := p.VA + 1
	if p.Write {
		w += 2
	}
	if p.Exec {
		w += 4
	}
	return w
}

// plainMeasure: by the library's SHA-256, over words that are written out here.
func plainMeasure(parts []image.Part) (sum [8]uint32) {
	var words []uint32
	for _, p := range parts {
		switch p.Kind {
		case image.Thread:
			words = append(words, 1, p.VA)
		case image.Table:
			words = append(words, 2, uint32(p.Index))
		case image.Data:
			words = append(append(words, 3, mappingWord(p)), wholePage(p.Words)...)
		case image.Share:
			words = append(words, 4, mappingWord(p))
		}
	}
	var bytes []byte
	for _, w := range words {
		bytes = binary.BigEndian.AppendUint32(bytes, w)
	}
	h := sha256.Sum256(bytes)
	for k := range sum {
		sum[k] = binary.BigEndian.Uint32(h[4*k:])
	}
	return sum
}

// plainPlan: the pages are told to the parts first, the steps are laid then.
func plainPlan(parts []image.Part, secure, shares []int, staging int) []image.Step {
	page := map[int]uint32{}
	for k := range parts {
		of, lent := takesPage, secure[2:]
		if isShare(parts[k]) {
			of, lent = isShare, shares
		}
		page[k] = uint32(lent[count(parts[:k], of)])
	}
	s := uint32(secure[0])
	steps := []image.Step{{Call: 10, A: s, B: uint32(secure[1])}}
	for k, p := range parts {
		switch p.Kind {
		case image.Table:
			steps = append(steps, image.Step{Call: 12, A: s, B: page[k], C: uint32(p.Index)})
		case image.Data:
			steps = append(steps, image.Step{Lay: true, Page: staging, Words: wholePage(p.Words)})
			steps = append(steps, image.Step{Call: 13, A: s, B: page[k], C: mappingWord(p), D: uint32(staging)})
		case image.Share:
			steps = append(steps, image.Step{Call: 14, A: s, B: mappingWord(p), C: page[k]})
		case image.Thread:
			steps = append(steps, image.Step{Call: 11, A: s, B: page[k], C: p.VA})
		}
	}
	steps = append(steps, image.Step{Call: 16, A: s})
	for k, p := range parts {
		if isSpare(p) {
			steps = append(steps, image.Step{Call: 15, A: s, B: page[k]})
		}
	}
	return steps
}

const someNumber = `(0|[1-9][0-9]*|0x[0-9a-f]{1,8})`

const (
	outside = iota
	inData
	inCode
)

var (
	tableLine  = regexp.MustCompile(`^table ` + someNumber + `$`)
	dataLine   = regexp.MustCompile(`^data ` + someNumber + ` (r|rw|rx|rwx)$`)
	shareLine  = regexp.MustCompile(`^share ` + someNumber + ` (r|rw)$`)
	threadLine = regexp.MustCompile(`^thread ` + someNumber + `$`)
	spareLine  = regexp.MustCompile(`^spare$`)
	wordLine   = regexp.MustCompile(`^word( ` + someNumber + `)+$`)
	fillLine   = regexp.MustCompile(`^fill ` + someNumber + ` ` + someNumber + `$`)
)

// plainReader: line by line, by patterns.
type plainReader struct {
	state int
	parts []image.Part
	code  []string
}

func plainNumber(s string) (uint32, bool) {
	n, err := strconv.ParseUint(s, 0, 32)
	return uint32(n), err == nil
}

// plainParse: the chapter's list of faults, at every line from its beginning.
func plainParse(s string) ([]image.Part, image.Fault) {
	if len(s) > 65536 {
		return nil, image.Fault{Err: api.ErrLong}
	}
	lines := strings.Split(s, "\n")
	if lines[len(lines)-1] == "" {
		lines = lines[:len(lines)-1]
	}
	var r plainReader
	for k, line := range lines {
		if at, e := r.read(line); e != api.OK {
			return nil, image.Fault{Err: e, Line: k + 1 - at}
		}
	}
	if r.state != outside {
		return nil, image.Fault{Err: api.ErrImage, Line: len(lines)}
	}
	return r.parts, image.Fault{}
}

// read: a line's fault, and how many lines ahead of it that is.
func (r *plainReader) read(line string) (before int, e api.Errno) {
	words, _, e := text.Words(line)
	if r.state == inCode {
		if e == api.OK && len(words) == 1 && !words[0].Quoted && words[0].Text == "done" {
			return r.done()
		}
		r.code = append(r.code, line+"\n")
		return 0, api.OK
	}
	if e != api.OK {
		return 0, e
	}
	if len(words) == 0 {
		return 0, api.OK
	}
	var joined []string
	for _, w := range words {
		if w.Quoted {
			return 0, api.ErrImage
		}
		joined = append(joined, w.Text)
	}
	ok := false
	if r.state == outside {
		ok = r.outsideLine(strings.Join(joined, " "))
	} else {
		ok = r.pageLine(strings.Join(joined, " "))
	}
	if !ok || !isImage(r.parts) {
		return 0, api.ErrImage
	}
	return 0, api.OK
}

// done: of a block of code.
func (r *plainReader) done() (before int, e api.Errno) {
	page := &r.parts[len(r.parts)-1]
	words, f := asm.Assemble(strings.Join(r.code, ""), page.VA+4*uint32(len(page.Words)))
	if f.Err != api.OK {
		return len(r.code) + 1 - f.Line, f.Err
	}
	page.Words = append(page.Words, words...)
	r.state, r.code = inData, nil
	if len(page.Words) > 1024 {
		return 0, api.ErrImage
	}
	return 0, api.OK
}

func (r *plainReader) outsideLine(line string) bool {
	for _, pattern := range []*regexp.Regexp{tableLine, dataLine, shareLine, threadLine, spareLine} {
		m := pattern.FindStringSubmatch(line)
		if m == nil {
			continue
		}
		var n uint32
		if len(m) > 1 {
			var ok bool
			if n, ok = plainNumber(m[1]); !ok {
				return false
			}
		}
		switch pattern {
		case tableLine:
			r.parts = append(r.parts, table(int(n)))
		case dataLine:
			r.parts = append(r.parts, data(n, m[2]))
			r.state = inData
		case shareLine:
			r.parts = append(r.parts, share(n, m[2]))
		case threadLine:
			r.parts = append(r.parts, thread(n))
		case spareLine:
			r.parts = append(r.parts, spare())
		}
		return true
	}
	return false
}

func (r *plainReader) pageLine(line string) bool {
	page := &r.parts[len(r.parts)-1]
	switch {
	case line == "end":
		r.state = outside
		return true
	case line == "code":
		r.state = inCode
		return true
	case wordLine.MatchString(line):
		for _, s := range strings.Split(line, " ")[1:] {
			w, ok := plainNumber(s)
			if !ok {
				return false
			}
			page.Words = append(page.Words, w)
		}
		return true
	}
	m := fillLine.FindStringSubmatch(line)
	if m == nil {
		return false
	}
	n, ok := plainNumber(m[1])
	w, also := plainNumber(m[2])
	if !ok || !also || n < 1 || n > 1024 {
		return false
	}
	page.Words = append(page.Words, slices.Repeat([]uint32{w}, int(n))...)
	return true
}
