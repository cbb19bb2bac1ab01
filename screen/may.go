package screen

import (
	"slices"

	"wayfarer/api"
	"wayfarer/cell"
	"wayfarer/grid"
)

// May is whether s may be.
func May(s api.Screen) bool {
	return mayCursor(s.Grid, cursorOf(s)) && mayCursor(s.Grid, s.Saved) &&
		isIn(s.Bottom, s.Grid.Rows) && s.Top >= 0 && s.Top <= s.Bottom &&
		mayTabs(s.Tabs, s.Grid.Cols) && mayTitle(s.Title) &&
		grid.May(s.Grid) && mayMain(s)
}

// Same is whether all of both screens is the same, be they such as may be or not.
func Same(s, t api.Screen) bool {
	return grid.Same(s.Grid, t.Grid) &&
		cursorOf(s) == cursorOf(t) && s.Saved == t.Saved &&
		s.Top == t.Top && s.Bottom == t.Bottom && slices.Equal(s.Tabs, t.Tabs) &&
		s.Wrap == t.Wrap && s.Insert == t.Insert && s.Arrows == t.Arrows &&
		s.Paste == t.Paste && s.Visible == t.Visible &&
		s.Alt == t.Alt && grid.Same(s.Main, t.Main) &&
		slices.Equal(s.Title, t.Title)
}

// cursorOf is what is kept of s by Keep.
func cursorOf(s api.Screen) api.Saved {
	return api.Saved{Row: s.Row, Col: s.Col, Pend: s.Pend, Origin: s.Origin, Style: s.Style}
}

// mayCursor is whether a screen of the grid g may have the cursor c, or have it kept.
func mayCursor(g api.Grid, c api.Saved) bool {
	if !isIn(c.Row, g.Rows) || !isIn(c.Col, g.Cols) {
		return false
	}
	if c.Pend && c.Col != g.Cols-1 {
		return false
	}
	// The second half of a wide character may be just if its style may.
	return cell.May(api.Cell{Style: c.Style})
}

func mayTabs(tabs []int, cols int) bool {
	ahead := -1
	for _, col := range tabs {
		if col <= ahead || col >= cols {
			return false
		}
		ahead = col
	}
	return true
}

func mayTitle(title []rune) bool {
	if len(title) > api.MaxTitle {
		return false
	}
	for _, c := range title {
		if c < 0 {
			return false
		}
	}
	return true
}

func mayMain(s api.Screen) bool {
	if !s.Alt {
		return grid.Same(s.Main, api.Grid{})
	}
	return s.Main.Cols == s.Grid.Cols && s.Main.Rows == s.Grid.Rows && grid.May(s.Main)
}

// isIn is whether n is one of the numbers from 0 up to, but without, count.
func isIn(n, count int) bool {
	return n >= 0 && n < count
}
