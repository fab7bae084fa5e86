package impl

import (
	"strconv"
	"strings"
)

// Bounds of rows.
const (
	RowWide = 6
	RowMost = 1000000000
)

// rowTextMost is how many bytes of a text are looked at, at most.
const rowTextMost = 100

// order tells which of two numbers comes ahead: below 0 the first, above 0 the second, 0 neither.
type order func(a int, b int) int

// RowOk says whether cells are a row.
func RowOk(r []int) bool {
	if len(r) < 1 || len(r) > RowWide {
		return false
	}
	for _, cell := range r {
		if !cellFits(cell) {
			return false
		}
	}
	return true
}

// RowSame says whether two rows are one.
func RowSame(a []int, b []int) bool {
	return compareRows(a, b, ascending) == 0
}

// RowLess says whether one comes ahead of another one.
func RowLess(a []int, b []int) bool {
	return compareRows(a, b, ascending) < 0
}

// RowText writes a row.
func RowText(r []int) string {
	var text strings.Builder
	for i, cell := range r {
		if i > 0 {
			text.WriteByte(',')
		}
		text.WriteString(strconv.Itoa(cell))
	}
	return text.String()
}

// RowRead reads a row.
func RowRead(text string) ([]int, bool) {
	if len(text) > rowTextMost {
		return nil, false
	}
	// The scan is lenient: only writing the row again shows that the text is the one it has.
	row := scanRow(text)
	if !RowOk(row) || RowText(row) != text {
		return nil, false
	}
	return row, true
}

// RowJoin is the cells of one row and then of another one.
func RowJoin(a []int, b []int) []int {
	row := make([]int, 0, len(a)+len(b))
	row = append(row, a...)
	return append(row, b...)
}

// cellFits says whether a number can be in a cell.
func cellFits(n int) bool {
	return -RowMost <= n && n <= RowMost
}

// ascending compares, as a difference of two numbers could be too great for one.
func ascending(a int, b int) int {
	switch {
	case a < b:
		return -1
	case a > b:
		return 1
	}
	return 0
}

// compareRows sets rows in an order by that of their cells; RowSame and RowLess both ask it, so that they can not disagree.
func compareRows(a []int, b []int, cells order) int {
	for i := range min(len(a), len(b)) {
		if c := cells(a[i], b[i]); c != 0 {
			return c
		}
	}
	return ascending(len(a), len(b))
}

// scanRow gathers the cells of a text up to the first sign that no row has, or a cell that is too great to go on with.
func scanRow(text string) []int {
	row := []int{}
	cell, sign := 0, 1
scan:
	for _, r := range text {
		switch {
		case '0' <= r && r <= '9':
			cell = cell*10 + int(r-'0')
			if !cellFits(cell) {
				break scan
			}
		case r == '-':
			sign = -1
		case r == ',':
			row = append(row, sign*cell)
			cell, sign = 0, 1
		default:
			break scan
		}
	}
	return append(row, sign*cell)
}
