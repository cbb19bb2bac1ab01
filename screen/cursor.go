package screen

import "wayfarer/api"

// The control characters that do something.
const (
	backspace = 8
	tabulator = 9
	lineFeed  = 10
	lineTab   = 11
	formFeed  = 12
	carriage  = 13
	feedUp    = 141
)

func (b *board) control(c rune) {
	switch c {
	case backspace:
		b.Col = max(b.Col-1, 0)
	case tabulator:
		b.Col = b.nextTab()
	case lineFeed, lineTab, formFeed:
		b.feed()
	case carriage:
		b.Col = 0
	case feedUp:
		b.feedBack()
	default:
		return
	}
	b.Pend = false
}

// nextTab is the next tabulator behind the cursor, or the last column.
func (b *board) nextTab() int {
	for _, col := range b.Tabs {
		if col > b.Col {
			return col
		}
	}
	return b.lastCol()
}

func (b *board) feed() {
	switch {
	case b.Row == b.Bottom:
		b.roll(b.Top, b.Bottom, 1)
	case b.Row < b.lastRow():
		b.Row++
	}
}

func (b *board) feedBack() {
	switch {
	case b.Row == b.Top:
		b.roll(b.Top, b.Bottom, -1)
	case b.Row > 0:
		b.Row--
	}
}

func (b *board) move(down, right int) {
	// Out of the rows that scroll no move leads, but into them it does.
	low, high := 0, b.lastRow()
	if b.Row >= b.Top {
		low = b.Top
	}
	if b.Row <= b.Bottom {
		high = b.Bottom
	}
	b.Row = within(b.Row, down, low, high)
	b.Col = within(b.Col, right, 0, b.lastCol())
	b.Pend = false
}

func (b *board) place(row, col int) {
	low, high := 0, b.lastRow()
	if b.Origin {
		low, high = b.Top, b.Bottom
	}
	b.Row = within(low, row, low, high)
	b.Col = within(0, col, 0, b.lastCol())
	b.Pend = false
}

func (b *board) keep() {
	b.Saved = cursorOf(api.Screen(*b))
}

func (b *board) keepBack() {
	kept := b.Saved
	b.Row, b.Col, b.Pend = kept.Row, kept.Col, kept.Pend
	b.Origin, b.Style = kept.Origin, kept.Style
}
