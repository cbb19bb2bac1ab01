package render

import (
	"slices"
	"strings"
	"testing"

	"wayfarer/api"
	"wayfarer/cell"
)

// flagged is the style that has the flags of a number's bits, and colours.
func flagged(flags, fg, bg int) api.Style {
	on := func(at int) bool { return flags>>at&1 == 1 }
	return api.Style{Fg: fg, Bg: bg, Bold: on(0), Faint: on(1), Italic: on(2), Under: on(3), Blink: on(4), Inverse: on(5), Hidden: on(6), Struck: on(7)}
}

// in is s with all its cells in a style.
func in(s api.Screen, style api.Style) api.Screen {
	s = apart(s)
	for i := range s.Grid.Cells {
		s.Grid.Cells[i].Style = style
	}
	return s
}

// styles is each flag, each kind of colour, and some of them together.
func styles() []api.Style {
	l := []api.Style{plain()}
	for flag := range 8 {
		l = append(l, flagged(1<<flag, -1, -1), flagged(255&^(1<<flag), 3, 200))
	}
	for _, colour := range []int{0, 1, 7, 8, 9, 15, 16, 17, 99, 100, 199, 254, 255} {
		l = append(l, flagged(0, colour, -1), flagged(0, -1, colour), flagged(3, colour, colour))
	}
	return append(l, flagged(255, -1, -1), flagged(255, 255, 254), flagged(255, 16, -1), flagged(0xaa, 0, 0), flagged(0x55, 15, 8))
}

// P19.2: screens that part in a style alone, of each kind to each.
func TestStyles(t *testing.T) {
	for _, style := range styles() {
		for _, other := range styles() {
			for _, picture := range []string{"a", "W-."} {
				s := screenOf(picture)
				check(t, in(s, style), in(s, other))
			}
			// One behind the other, and the plain one behind both.
			to := in(screenOf("abcW-x"), plain())
			to.Grid.Cells[0].Style, to.Grid.Cells[1].Style = style, other
			to.Grid.Cells[3].Style, to.Grid.Cells[4].Style = other, other
			check(t, screenOf("......"), to)
			check(t, in(screenOf("W-W-W-"), other), to)
		}
	}
}

// P19.2: all flags, all colours.
func TestAllStyles(t *testing.T) {
	t.Parallel()
	s := screenOf("ab")
	for flags := range 256 {
		style := flagged(flags, flags-1, 255-flags)
		for other := range 8 {
			to := in(s, style)
			to.Grid.Cells[other%2].Style = flagged(255&^(1<<other), other-1, -1)
			check(t, s, to)
			check(t, to, s)
		}
	}
	for colour := -1; colour <= 255; colour++ {
		to := in(s, flagged(0, colour, -1))
		to.Grid.Cells[1].Style = flagged(0, -1, colour)
		check(t, s, to)
		check(t, to, s)
	}
}

// P19.2: blanks of all kinds, of which some may be cleared and others must be printed.
func TestBlanks(t *testing.T) {
	t.Parallel()
	long := screenOf("abcdefgh/aW-W-W-c/abcdefgh")
	for _, style := range styles() {
		for _, other := range styles() {
			to := in(fresh(8, 3), style)
			for i := range 5 {
				to.Grid.Cells[i].Style = other
			}
			check(t, long, to)
			for i := 16; i < 24; i++ {
				to.Grid.Cells[i].Style = other
			}
			check(t, in(long, style), to)
		}
	}
}

// P19.2: parameters that do not go into one sequence come apart where none of those that tell a colour stand.
func TestFitting(t *testing.T) {
	long := []int{38, 5, 200, 48, 5, 100}
	all := slices.Concat([]int{0, 1, 2, 3, 4, 5, 7, 8, 9, 22, 23, 24, 25, 27, 28, 29, 1, 3, 9}, long)[:24]
	for begin := range 20 {
		for end := begin; end <= 24; end++ {
			params := slices.Concat(all[24-begin:], long, all[begin:end])
			if len(params) > 24 {
				continue
			}
			checkFitting(t, flagged(0x3c, 7, -1), params)
			checkFitting(t, plain(), slices.Concat(params[len(params)/2:], params[:len(params)/2]))
		}
	}
	// More than cell.Change may tell.
	for count := range 40 {
		params := slices.Concat(long, all[:17], long, all[18-count%18:], long, long, all[count%9:])
		checkFitting(t, plain(), params)
	}
	for _, params := range [][]int{{1}, {0}, {38, 5, 0}, slices.Repeat(long, 4), slices.Repeat([]int{1, 38, 5, 200}, 6), slices.Repeat([]int{48, 5, 255, 4, 9}, 4), slices.Repeat([]int{1}, 17), slices.Repeat([]int{1}, 16)} {
		checkFitting(t, plain(), params)
	}
}

// checkFitting holds parameters that are told to a terminal against what they make, be they as many as cell.Change may tell.
func checkFitting(t *testing.T, from api.Style, params []int) {
	t.Helper()
	s := fresh(1, 1)
	s.Style = from
	want := cell.Apply(from, params...)
	text := toldStyle(from, want, params)
	shown, _, quiet := played(s, []byte(text))
	sequences := strings.Count(text, "m")
	isFew := sequences == (len(params)+15)/16 && len(text) <= 110
	if len(params) > 24 {
		isFew = sequences <= (len(params)+11)/12
	}
	if shown.Style != want || !quiet || !isFew {
		t.Errorf("%d: %q makes %s", params, textOf([]byte(text)), restOf(shown.Style))
	}
}
