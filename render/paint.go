package render

import (
	"wayfarer/api"
	"wayfarer/cell"
	"wayfarer/screen"
)

// What makes blanks from the cursor on, up to the end of its row, or of all rows.
const (
	clearRow  = begin + "K"
	clearRest = begin + "J"
)

// paint is bytes that bring the cells and the cursor of to to a terminal of the tame screen from, whose rows go up by so many first.
func paint(from, to api.Screen, up int) []byte {
	// No deed on a tame screen is refused.
	from, _ = screen.Scroll(from, up)
	write := penOn(from, to, scrolled(up))
	cols, shown, wanted := to.Grid.Cols, from.Grid.Cells, to.Grid.Cells
	rest, upTo := tailOf(wanted), 0
	for row := range to.Grid.Rows {
		first, end := row*cols, (row+1)*cols
		tail := first + tailOf(wanted[first:end])
		for col := range cols {
			at := first + col
			// Where the first half of a wide character was written over, the second one is no more shown than it is wanted: that place is written, too.
			if at < upTo || shown[at] == wanted[at] {
				continue
			}
			next := printed(at, wanted[at])
			switch {
			case at >= rest && isMuch(shown[at:], wanted[at:]):
				next = cleared(at, len(wanted), wanted[at].Style, clearRest)
			case at >= tail && isMuch(shown[at:end], wanted[at:end]):
				next = cleared(at, end, wanted[at].Style, clearRow)
			}
			write(next)
			upTo = next.upTo
		}
	}
	return write(stood(to.Row*cols + to.Col))
}

// tailOf is the place from which on cells are nothing but one blank, over and over; how many there are, if the last one is no blank.
func tailOf(cells []api.Cell) int {
	at := len(cells)
	last := cells[at-1]
	if last != cell.Blank(last.Style) {
		return at
	}
	for at > 0 && cells[at-1] == last {
		at--
	}
	return at
}

// isMuch is whether as many cells are not as they are wanted as it takes bytes to clear them all.
func isMuch(shown, wanted []api.Cell) bool {
	count := 0
	for at := range len(wanted) {
		if shown[at] != wanted[at] {
			count++
		}
		if count == len(clearRow) {
			return true
		}
	}
	return false
}
