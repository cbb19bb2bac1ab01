package grid

import (
	"math/big"

	"wayfarer/api"
	"wayfarer/cell"
)

// The document's words, read slowly: of each place of an answer it is asked what comes to stand there, with numbers that have no end, and a row is mended by looking at the row as it was.

// slowRows is a grid's cells as lists of their own. All rows have as many columns.
func slowRows(g api.Grid) (rows [][]api.Cell) {
	for row := 0; row < g.Rows; row++ {
		var l []api.Cell
		for col := 0; col < g.Cols; col++ {
			l = append(l, g.Cells[row*g.Cols+col])
		}
		rows = append(rows, l)
	}
	return rows
}

// slowGrid is the grid of such lists.
func slowGrid(rows [][]api.Cell) api.Grid {
	g := api.Grid{Cols: len(rows[0]), Rows: len(rows)}
	for _, l := range rows {
		g.Cells = append(g.Cells, l...)
	}
	return g
}

func slowMayStyle(s api.Style) bool {
	return s.Fg >= -1 && s.Fg <= 255 && s.Bg >= -1 && s.Bg <= 255
}

func slowMaySize(cols, rows int) bool {
	for side := 1; side <= 512; side++ {
		if side == cols {
			return rows == side || rows > 0 && rows < 513
		}
	}
	return false
}

func slowMay(g api.Grid) bool {
	if !slowMaySize(g.Cols, g.Rows) || len(g.Cells) != g.Cols*g.Rows {
		return false
	}
	for _, l := range slowRows(g) {
		for _, c := range l {
			if !cell.May(c) {
				return false
			}
		}
		for at, c := range slowMend(l) {
			if c != l[at] {
				return false
			}
		}
	}
	return true
}

// slowMend is a row, mended. Places ahead of the row and behind it have a cell that is no half.
func slowMend(l []api.Cell) (mended []api.Cell) {
	around := append(append([]api.Cell{{Wide: 1}}, l...), api.Cell{Wide: 1})
	for at := 1; at <= len(l); at++ {
		ahead, c, behind := around[at-1], around[at], around[at+1]
		first := c.Wide == 2 && (behind.Wide != 0 || behind.Style != c.Style)
		second := c.Wide == 0 && (ahead.Wide != 2 || ahead.Style != c.Style)
		if first || second {
			c = slowBlank(c.Style)
		}
		mended = append(mended, c)
	}
	return mended
}

func slowBlank(s api.Style) api.Cell {
	return api.Cell{Char: 32, Wide: 1, Style: api.Style{Fg: -1, Bg: s.Bg}}
}

// sum is a and b as numbers without end, and whether an int holds it.
func sum(a, b int) (int, bool) {
	n := new(big.Int).Add(big.NewInt(int64(a)), big.NewInt(int64(b)))
	return int(n.Int64()), n.IsInt64()
}

// slowMoved is the number among from to last that goes to the place at, if each goes by places further; else false.
func slowMoved(at, from, last, by int) (int, bool) {
	for n := from; n <= last; n++ {
		if to, ok := sum(n, by); ok && to == at {
			return n, true
		}
	}
	return 0, false
}

func slowNew(cols, rows int, s api.Style) (api.Grid, api.Errno) {
	if !slowMaySize(cols, rows) || !slowMayStyle(s) {
		return api.Grid{}, api.ErrArg
	}
	g := api.Grid{Cols: cols, Rows: rows}
	for n := 0; n < cols*rows; n++ {
		g.Cells = append(g.Cells, slowBlank(s))
	}
	return g, api.OK
}

func slowWrite(g api.Grid, row, col int, s api.Style, l ...api.Cell) (api.Grid, api.Errno) {
	if !slowMay(g) || !slowMayStyle(s) || row < 0 || row >= g.Rows || col < 0 || col >= g.Cols {
		return api.Grid{}, api.ErrArg
	}
	for _, c := range l {
		if !cell.May(c) {
			return api.Grid{}, api.ErrArg
		}
	}
	rows := slowRows(g)
	for i, c := range l {
		if col+i < g.Cols {
			rows[row][col+i] = c
		}
	}
	rows[row] = slowMend(rows[row])
	return slowGrid(rows), api.OK
}

func slowErase(g api.Grid, row, from, to int, s api.Style) (api.Grid, api.Errno) {
	if !slowMay(g) || !slowMayStyle(s) || row < 0 || row >= g.Rows || from < 0 || to < from || g.Cols < to {
		return api.Grid{}, api.ErrArg
	}
	rows := slowRows(g)
	for col := range rows[row] {
		if col >= from && col < to {
			rows[row][col] = slowBlank(s)
		}
	}
	rows[row] = slowMend(rows[row])
	return slowGrid(rows), api.OK
}

func slowShift(g api.Grid, row, from, by int, s api.Style) (api.Grid, api.Errno) {
	if !slowMay(g) || !slowMayStyle(s) || row < 0 || row >= g.Rows || from < 0 || from >= g.Cols {
		return api.Grid{}, api.ErrArg
	}
	rows, old := slowRows(g), slowRows(g)[row]
	for col := from; col < g.Cols; col++ {
		rows[row][col] = slowBlank(s)
		if n, ok := slowMoved(col, from, g.Cols-1, by); ok {
			rows[row][col] = old[n]
		}
	}
	rows[row] = slowMend(rows[row])
	return slowGrid(rows), api.OK
}

func slowScroll(g api.Grid, top, bottom, by int, s api.Style) (api.Grid, api.Errno) {
	if !slowMay(g) || !slowMayStyle(s) || top < 0 || bottom < top || g.Rows-1 < bottom {
		return api.Grid{}, api.ErrArg
	}
	rows, old := slowRows(g), slowRows(g)
	for row := top; row <= bottom; row++ {
		for col := range rows[row] {
			rows[row][col] = slowBlank(s)
		}
		// A row that goes up comes from further down: which one goes there, asked the other way about.
		for n := top; n <= bottom; n++ {
			if from, ok := sum(row, by); ok && from == n {
				rows[row] = old[n]
			}
		}
	}
	return slowGrid(rows), api.OK
}

func slowResize(g api.Grid, cols, rows int, s api.Style) (api.Grid, api.Errno) {
	h, e := slowNew(cols, rows, s)
	if !slowMay(g) || e != api.OK {
		return api.Grid{}, api.ErrArg
	}
	old, now := slowRows(g), slowRows(h)
	for row, l := range now {
		for col := range l {
			if row < g.Rows && col < g.Cols {
				l[col] = old[row][col]
			}
		}
		now[row] = slowMend(l)
	}
	return slowGrid(now), api.OK
}
