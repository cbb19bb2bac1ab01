package screen

import (
	"wayfarer/cell"
	"wayfarer/width"
)

func (b *board) print(c rune) {
	switch w := width.Of(c); w {
	case 0:
		b.mark(c)
	case 1, 2:
		b.put(c, w)
	}
}

// mark puts a mark onto the character that was printed last, if the cursor was not moved since.
func (b *board) mark(c rune) {
	col := b.Col
	if !b.Pend {
		col--
	}
	if col < 0 {
		return
	}
	cells := b.rows(b.Row, b.Row).Cells
	if cells[col].Wide == 0 {
		col--
	}
	b.write(col, cell.Mark(cells[col], c))
}

// put prints a character of the width w, which is 1 or 2.
func (b *board) put(c rune, w int) {
	if b.Pend && b.Wrap {
		b.wrap()
	}
	b.Pend = false
	if w == 2 && b.Col == b.lastCol() {
		// On one column it would find no room in the next row either.
		if !b.Wrap || b.Grid.Cols < 2 {
			return
		}
		b.wrap()
	}
	if b.Insert {
		b.shift(w)
	}
	b.write(b.Col, cell.Put(c, b.Style)...)
	b.Pend = b.Col+w > b.lastCol()
	b.Col = min(b.Col+w, b.lastCol())
}

func (b *board) wrap() {
	b.Col = 0
	b.feed()
}
