package emulator

import (
	"wayfarer/api"
	"wayfarer/cell"
	"wayfarer/screen"
)

// private is what stands ahead of the parameters of private modes.
const private = '?'

// What the parameter of tabulators says that are to go: the one at the cursor, or all of them; and the kinds of that.
const (
	oneTab  = 0
	allTabs = 3

	clearTab  = 1
	clearTabs = 2
)

// far is further than any place is from any edge: beyond it a count does no more, and up to it 1 and a column may be taken away, and the sign be turned about.
const far = 2 * api.MaxSide

// parameter is the one at a place of a sequence, or 0.
func parameter(a api.Action, at int) int {
	if at < len(a.Params) {
		return a.Params[at]
	}
	return 0
}

// count is the one at a place of a sequence, or 1.
func count(a api.Action, at int) int {
	n := parameter(a, at)
	if n == 0 {
		return 1
	}
	return near(n)
}

// near is n, or what is next to it and not too far.
func near(n int) int {
	return max(-far, min(n, far))
}

// sequence is s behind a control sequence without Mid.
func sequence(s api.Screen, a api.Action) (api.Screen, api.Errno) {
	on := a.Final == 'h'
	switch {
	case a.Private == 0:
		return moved(s, a)
	case a.Private == private && (on || a.Final == 'l'):
		return modes(s, true, a.Params, on)
	}
	return unchanged(s)
}

// moved is s behind a sequence that brings the cursor elsewhere, or behind another one.
func moved(s api.Screen, a api.Action) (api.Screen, api.Errno) {
	n := count(a, 0)
	switch a.Final {
	case 'A':
		return screen.Move(s, -n, 0)
	case 'B', 'e':
		return screen.Move(s, n, 0)
	case 'C', 'a':
		return screen.Move(s, 0, n)
	case 'D':
		return screen.Move(s, 0, -n)
	case 'E':
		return lineStart(screen.Move(s, n, 0))
	case 'F':
		return lineStart(screen.Move(s, -n, 0))
	case 'G', '`':
		return toColumn(s, n-1)
	case 'd':
		return screen.Place(s, n-1, s.Col)
	case 'H', 'f':
		return screen.Place(s, n-1, count(a, 1)-1)
	}
	return edited(s, a)
}

// edited is s behind a sequence that makes blanks or moves what stands there, or behind another one.
func edited(s api.Screen, a api.Action) (api.Screen, api.Errno) {
	n := count(a, 0)
	switch a.Final {
	case 'J':
		return screen.Erase(s, true, parameter(a, 0))
	case 'K':
		return screen.Erase(s, false, parameter(a, 0))
	case 'L':
		return screen.Lines(s, n)
	case 'M':
		return screen.Lines(s, -n)
	case '@':
		return screen.Chars(s, n)
	case 'P':
		return screen.Chars(s, -n)
	case 'X':
		return screen.Wipe(s, n)
	case 'S':
		return screen.Scroll(s, n)
	case 'T':
		return screen.Scroll(s, -n)
	}
	return set(s, a)
}

// set is s behind a sequence that changes what the terminal remembers.
func set(s api.Screen, a api.Action) (api.Screen, api.Errno) {
	switch a.Final {
	case 'g':
		return tabs(s, parameter(a, 0))
	case 'm':
		return styled(s, a.Params)
	case 'h':
		return modes(s, false, a.Params, true)
	case 'l':
		return modes(s, false, a.Params, false)
	case 'r':
		return region(s, a)
	case 's':
		return screen.Keep(s, false)
	case 'u':
		return screen.Keep(s, true)
	}
	return unchanged(s)
}

// lineStart is what a deed made, with the cursor at the beginning of its line.
func lineStart(s api.Screen, e api.Errno) (api.Screen, api.Errno) {
	if e != api.OK {
		return s, e
	}
	return controls(s, carriage)
}

// toColumn is s with the cursor in a column of its row. Of a screen that may not be, Col may be too far away to be taken from anything.
func toColumn(s api.Screen, col int) (api.Screen, api.Errno) {
	return screen.Move(s, 0, col-near(s.Col))
}

// tabs is s without the tabulators that a parameter names.
func tabs(s api.Screen, n int) (api.Screen, api.Errno) {
	switch n {
	case oneTab:
		return screen.Tab(s, clearTab)
	case allTabs:
		return screen.Tab(s, clearTabs)
	}
	return unchanged(s)
}

// styled is s with the style that parameters make of its own.
func styled(s api.Screen, params []int) (api.Screen, api.Errno) {
	t, e := unchanged(s)
	if e == api.OK {
		t.Style = cell.Apply(t.Style, params...)
	}
	return t, e
}

// modes is s with modes on, or off, one behind the other.
func modes(s api.Screen, isPrivate bool, numbers []int, on bool) (api.Screen, api.Errno) {
	t, e := unchanged(s)
	for _, n := range numbers {
		// As with control characters, an error stays.
		t, e = screen.Mode(t, isPrivate, n, on)
	}
	return t, e
}

// region is s with the rows that scroll as a sequence names them.
func region(s api.Screen, a api.Action) (api.Screen, api.Errno) {
	bottom := near(parameter(a, 1))
	if bottom == 0 {
		bottom = near(s.Grid.Rows)
	}
	return screen.Region(s, count(a, 0)-1, bottom-1)
}
