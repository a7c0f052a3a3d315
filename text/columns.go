package text

import "strings"

const between = "  "

// Columns: rows of cells as lines: each column as wide as its widest cell, two blanks between, no blank at a line's end, a newline behind each row.
func Columns(rows [][]string) string {
	widths := widthsOf(rows)
	var lines strings.Builder
	for _, row := range rows {
		layRow(&lines, row, widths)
		lines.WriteByte('\n')
	}
	return lines.String()
}

// widthsOf: of each column the bytes of its longest cell.
func widthsOf(rows [][]string) (widths []int) {
	for _, row := range rows {
		for i, cell := range row {
			if i == len(widths) {
				widths = append(widths, 0)
			}
			widths[i] = max(widths[i], len(cell))
		}
	}
	return widths
}

// layRow: a row's cells up to the last that has more than blanks: what fills up the ones behind it would go again.
func layRow(line *strings.Builder, row []string, widths []int) {
	last := len(row) - 1
	for last >= 0 && withoutBlanks(row[last]) == "" {
		last--
	}
	for i := range last {
		line.WriteString(row[i])
		line.WriteString(strings.Repeat(" ", widths[i]-len(row[i])))
		line.WriteString(between)
	}
	if last >= 0 {
		line.WriteString(withoutBlanks(row[last]))
	}
}

// withoutBlanks: a cell without the blanks at its end.
func withoutBlanks(cell string) string { return strings.TrimRight(cell, " ") }
