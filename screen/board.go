package screen

import (
	"wayfarer/api"
	"wayfarer/grid"
)

// board is a screen that may be and whose lists are nobody else's, so that a deed changes them where they are.
type board api.Screen

// do is what a deed makes of s.
func do(s api.Screen, deed func(b *board)) (api.Screen, api.Errno) {
	if !May(s) {
		return api.Screen{}, api.ErrArg
	}
	b := board(another(s))
	deed(&b)
	return api.Screen(b), api.OK
}

// another is a screen as s, in memory of its own.
func another(s api.Screen) api.Screen {
	s.Grid.Cells = anotherList(s.Grid.Cells)
	s.Main.Cells = anotherList(s.Main.Cells)
	s.Tabs = anotherList(s.Tabs)
	s.Title = anotherList(s.Title)
	return s
}

func anotherList[T any](l []T) []T {
	m := make([]T, len(l))
	copy(m, l)
	return m
}

func (b *board) lastRow() int { return b.Grid.Rows - 1 }

func (b *board) lastCol() int { return b.Grid.Cols - 1 }

// rows is the rows from top to bottom as a grid of their own, whose cells are the board's: a call of grid looks at all that it is handed, and what a deed does to some rows hangs on no others.
func (b *board) rows(top, bottom int) api.Grid {
	from, to := top*b.Grid.Cols, (bottom+1)*b.Grid.Cols
	return api.Grid{Cols: b.Grid.Cols, Rows: bottom - top + 1, Cells: b.Grid.Cells[from:to:to]}
}

// lay puts what was made of some rows into their place. No call of grid below is refused, as all its places are the board's; if one were, there would be no cells to lay.
func lay(rows, changed api.Grid) {
	copy(rows.Cells, changed.Cells)
}

// write lays cells into the cursor's row, from col on.
func (b *board) write(col int, l ...api.Cell) {
	row := b.rows(b.Row, b.Row)
	changed, _ := grid.Write(row, 0, col, b.Style, l...)
	lay(row, changed)
}

// shift moves the cells from the cursor on by places to the right, or to the left if by is below 0.
func (b *board) shift(by int) {
	row := b.rows(b.Row, b.Row)
	changed, _ := grid.Shift(row, 0, b.Col, by, b.Style)
	lay(row, changed)
}

// blank makes blanks of a row's cells from from up to, but without, to.
func (b *board) blank(at, from, to int) {
	row := b.rows(at, at)
	changed, _ := grid.Erase(row, 0, from, to, b.Style)
	lay(row, changed)
}

// roll moves the rows from top to bottom by rows up, or down if by is below 0.
func (b *board) roll(top, bottom, by int) {
	rows := b.rows(top, bottom)
	changed, _ := grid.Scroll(rows, 0, bottom-top, by, b.Style)
	lay(rows, changed)
}

// near is n, or the number next to it that is no further from 0 than the longest side: from every place this leads to every edge. A place has ten bits at most, so 16 hold their sum.
func near(n int) int16 {
	return int16(max(-api.MaxSide, min(n, api.MaxSide)))
}

// within is the place that is by further than at, or the one next to it from low to high.
func within(at, by, low, high int) int {
	to := int16(at) + near(by)
	return max(low, min(int(to), high))
}
