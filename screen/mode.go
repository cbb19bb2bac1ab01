package screen

import (
	"slices"

	"wayfarer/api"
	"wayfarer/grid"
)

// Modes: the one that is not private, and those that are.
const (
	insertMode = 4

	arrowsMode  = 1
	originMode  = 6
	wrapMode    = 7
	visibleMode = 25
	altMode     = 47
	altModeToo  = 1047
	altAndKeep  = 1049
	pasteMode   = 2004
)

// What a tabulator's kind says, and how far those of a new screen stand from each other.
const (
	setTab    = 0
	clearTab  = 1
	clearTabs = 2

	tabWidth = 8
)

func (b *board) mode(n int, on bool) {
	if n == insertMode {
		b.Insert = on
	}
}

func (b *board) privateMode(n int, on bool) {
	switch n {
	case arrowsMode:
		b.Arrows = on
	case originMode:
		b.Origin = on
		b.place(0, 0)
	case wrapMode:
		b.Wrap = on
	case visibleMode:
		b.Visible = on
	case altMode, altModeToo:
		b.alt(on)
	case altAndKeep:
		b.altKept(on)
	case pasteMode:
		b.Paste = on
	}
}

// alt shows the other grid, or the main one again.
func (b *board) alt(on bool) {
	switch {
	case on && !b.Alt:
		b.Main = b.Grid
		b.Grid, _ = grid.New(b.Main.Cols, b.Main.Rows, b.Style)
	case b.Alt && !on:
		b.Grid, b.Main = b.Main, api.Grid{}
	}
	b.Alt = on
}

// altKept does so, and keeps the cursor of the main one.
func (b *board) altKept(on bool) {
	if on {
		b.keep()
		b.alt(true)
		return
	}
	if b.Alt {
		b.alt(false)
		b.keepBack()
	}
}

func (b *board) region(top, bottom int) {
	if top < 0 || top >= bottom || bottom > b.lastRow() {
		return
	}
	b.Top, b.Bottom = top, bottom
	b.place(0, 0)
}

func (b *board) tab(kind int) {
	at, stands := slices.BinarySearch(b.Tabs, b.Col)
	switch kind {
	case setTab:
		if !stands {
			b.Tabs = slices.Insert(b.Tabs, at, b.Col)
		}
	case clearTab:
		if stands {
			b.Tabs = slices.Delete(b.Tabs, at, at+1)
		}
	case clearTabs:
		b.Tabs = nil
	}
}

// newTabs is the tabulators of a new screen.
func newTabs(cols int) []int {
	var tabs []int
	for col := tabWidth; col < cols; col += tabWidth {
		tabs = append(tabs, col)
	}
	return tabs
}

// resize takes the grid g, which is the board's in another size, and brings all else to that.
func (b *board) resize(g api.Grid) {
	b.Grid = g
	if b.Alt {
		b.Main, _ = grid.Resize(b.Main, g.Cols, g.Rows, b.Style)
	}
	b.Row, b.Col = min(b.Row, b.lastRow()), min(b.Col, b.lastCol())
	b.Saved.Row, b.Saved.Col = min(b.Saved.Row, b.lastRow()), min(b.Saved.Col, b.lastCol())
	b.Pend, b.Saved.Pend = false, false
	b.Top, b.Bottom = 0, b.lastRow()
	b.Tabs = newTabs(g.Cols)
}
