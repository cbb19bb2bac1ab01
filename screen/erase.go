package screen

// What is erased.
const (
	fromCursor = 0
	toCursor   = 1
	everything = 2
)

func (b *board) erase(lines bool, kind int) {
	b.Pend = false
	// The cursor's row from from up to to, and with lines all of the rows from top to bottom.
	from, to := 0, b.Grid.Cols
	top, bottom := 0, b.lastRow()
	switch kind {
	case fromCursor:
		from, top = b.Col, b.Row+1
	case toCursor:
		to, bottom = b.Col+1, b.Row-1
	case everything:
	default:
		return
	}
	b.blank(b.Row, from, to)
	if !lines {
		return
	}
	for row := top; row <= bottom; row++ {
		b.blank(row, 0, b.Grid.Cols)
	}
}

func (b *board) lines(n int) {
	if b.Row < b.Top || b.Row > b.Bottom {
		return
	}
	// The least int has no other one to be turned into; what is near has.
	b.roll(b.Row, b.Bottom, -int(near(n)))
	b.Col, b.Pend = 0, false
}

func (b *board) chars(n int) {
	b.shift(n)
	b.Pend = false
}

func (b *board) wipe(n int) {
	b.blank(b.Row, b.Col, within(b.Col, n, b.Col, b.Grid.Cols))
	b.Pend = false
}

func (b *board) scroll(n int) {
	b.roll(b.Top, b.Bottom, n)
	b.Pend = false
}
