package grid

import (
	"wayfarer/api"
	"wayfarer/cell"
)

// place is where a row begins among all cells, and so how many so many rows have. Neither side of a grid that may be has more than ten bits, so that a number of 32 holds the product.
func place(cols, row int) int {
	return int(uint32(cols) * uint32(row))
}

// rowOf is a row of g, cut so that nothing that is laid into it gets into the next one.
func rowOf(g api.Grid, row int) []api.Cell {
	return rowsOf(g, row, 1)
}

// rowsOf is so many rows of g, from the row top on.
func rowsOf(g api.Grid, top, count int) []api.Cell {
	from, to := place(g.Cols, top), place(g.Cols, top+count)
	return g.Cells[from:to:to]
}

// push moves cells by places towards the end, or towards the beginning if by is below 0, and lays blanks where they leave. There are at least so many cells.
func push(cells []api.Cell, by int, s api.Style) {
	switch {
	case by > 0:
		copy(cells[by:], cells)
		fill(cells[:by], s)
	case by < 0:
		left := len(cells) + by
		copy(cells[:left], cells[-by:])
		fill(cells[left:], s)
	}
}

func fill(cells []api.Cell, s api.Style) {
	blank := cell.Blank(s)
	for i := range cells {
		cells[i] = blank
	}
}

// mend makes blanks of halves of wide characters that stand by themselves.
func mend(row []api.Cell) {
	alone := loneIn(row)
	for at, c := range row {
		// A half is alone or not whatever was mended ahead of it: what is mended was no half of a pair.
		if alone(at) {
			row[at] = cell.Blank(c.Style)
		}
	}
}

// isWhole is whether mend would leave a row as it is.
func isWhole(row []api.Cell) bool {
	alone := loneIn(row)
	for at := range row {
		if alone(at) {
			return false
		}
	}
	return true
}

// loneIn is a question about the row: whether a place of it has one half of a wide character without the other one.
func loneIn(row []api.Cell) func(at int) bool {
	isPair := func(at int) bool {
		if at < 0 || at+1 >= len(row) {
			return false
		}
		first, second := &row[at], &row[at+1]
		return first.Wide == 2 && second.Wide == 0 && first.Style == second.Style
	}
	return func(at int) bool {
		switch row[at].Wide {
		case 2:
			return !isPair(at)
		case 0:
			return !isPair(at - 1)
		}
		return false
	}
}

// mayCells is whether each of the cells may be, by itself.
func mayCells(l []api.Cell) bool {
	for i := range l {
		// Most cells are as the one ahead, and to compare takes far less than to look up how wide a character is.
		if (i == 0 || l[i] != l[i-1]) && !cell.May(l[i]) {
			return false
		}
	}
	return true
}

// mayStyle is whether s may be: the second half of a wide character may be just if its style may.
func mayStyle(s api.Style) bool {
	return cell.May(api.Cell{Style: s})
}

// isIn is whether n is one of the numbers from 0 up to, but without, count.
func isIn(n, count int) bool {
	return n >= 0 && n < count
}

// clamp is the number nearest to n that is no further from 0 than most.
func clamp(n, most int) int {
	return max(-most, min(n, most))
}
