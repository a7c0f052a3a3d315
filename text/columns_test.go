package text_test

import (
	"math/rand"
	"slices"
	"strings"
	"testing"

	"warden/text"
)

func TestColumnsExamples(t *testing.T) {
	for _, c := range []struct {
		rows [][]string
		want string
	}{
		{[][]string{{"a", "bbb", "c"}, {"dd", "e"}}, "a   bbb  c\ndd  e\n"},
		{[][]string{{}, {"x"}}, "\nx\n"},
		{[][]string{{"ab", ""}, {"c", "d"}}, "ab\nc   d\n"},
		{nil, ""},
		{[][]string{}, ""},
		{[][]string{nil}, "\n"},
		{[][]string{nil, {}, {""}, {" "}}, "\n\n\n\n"},
		{[][]string{{"", "x"}}, "  x\n"},
		{[][]string{{" ", " x "}}, "    x\n"},
		{[][]string{{"a ", " ", ""}}, "a\n"},
		{[][]string{{"a   "}, {"b", "c"}}, "a\nb     c\n"},
		{[][]string{{"a", "bb"}, {"longer than all"}}, "a                bb\nlonger than all\n"},
		{[][]string{{"\u00e9", "x"}, {"ab", "y"}, {"a", "z"}}, "\u00e9  x\nab  y\na   z\n"},
		{[][]string{{"a\t ", ""}}, "a\t\n"},
		{[][]string{{"a \nb ", "c \n"}, {"\xff", "\r "}}, "a \nb   c \n\n\xff      \r\n"},
		{[][]string{{"a", "", "", "d"}, {"", "bb", "", ""}, {"", "", "c"}}, "a         d\n   bb\n       c\n"},
	} {
		if got := text.Columns(c.rows); got != c.want {
			t.Errorf("P4.8: Columns(%q) = %q, want %q", c.rows, got, c.want)
		}
	}
}

// laid: Columns again, as the chapter says it: all cells but the last filled up, then the blanks at the end taken away one by one.
func laid(rows [][]string) string {
	width := func(column int) (n int) {
		for _, row := range rows {
			if column < len(row) && len(row[column]) > n {
				n = len(row[column])
			}
		}
		return n
	}
	all := ""
	for _, row := range rows {
		line := ""
		for i, cell := range row {
			if i > 0 {
				line += "  "
			}
			line += cell
			if i < len(row)-1 {
				for n := len(cell); n < width(i); n++ {
					line += " "
				}
			}
		}
		for line != "" && line[len(line)-1] == ' ' {
			line = line[:len(line)-1]
		}
		all += line + "\n"
	}
	return all
}

func TestColumnsOfManyRows(t *testing.T) {
	r := rand.New(rand.NewSource(8))
	const bytes = "a  \t\n\xff"
	for range 20000 {
		rows := make([][]string, r.Intn(5))
		for i := range rows {
			rows[i] = make([]string, r.Intn(5))
			for j := range rows[i] {
				for range r.Intn(5) {
					at := r.Intn(len(bytes))
					rows[i][j] += bytes[at : at+1]
				}
			}
		}
		if got, want := text.Columns(rows), laid(rows); got != want {
			t.Fatalf("P4.8: Columns(%q) = %q, want %q", rows, got, want)
		}
	}
}

// Rows of empty cells in wide columns: what is filled up and goes again would be far more than the answer.
func TestColumnsOfWideAndEmptyRows(t *testing.T) {
	const columns, rows, width = 2000, 2000, 10000
	all := [][]string{slices.Repeat([]string{strings.Repeat("x", width)}, columns)}
	for range rows {
		all = append(all, make([]string, columns))
	}
	got := text.Columns(all)
	first := columns*width + 2*(columns-1)
	if len(got) != first+1+rows || strings.Trim(got[first:], "\n") != "" {
		t.Errorf("P4.8: Columns of a wide row and %d empty ones: %d bytes", rows, len(got))
	}
}

func TestColumnsLeavesWhatIsHandedIn(t *testing.T) {
	row := []string{"a ", "", "behind"}
	rows := [][]string{row[:2], {"long", "b"}, {"behind"}}
	if got := text.Columns(rows[:2]); got != "a\nlong  b\n" {
		t.Errorf("P4.8: Columns = %q", got)
	}
	if !slices.Equal(row, []string{"a ", "", "behind"}) || len(rows[0]) != 2 || !slices.Equal(rows[1], []string{"long", "b"}) || !slices.Equal(rows[2], []string{"behind"}) {
		t.Errorf("rule 5: the rows became %q", rows)
	}
	cell := strings.Clone("one cell")
	if got := text.Columns([][]string{{cell}}); got != "one cell\n" || within(got, cell) {
		t.Errorf("rule 5: Columns = %q, in the memory of its cell", got)
	}
}
