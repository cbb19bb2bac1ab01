package render

import (
	"testing"

	"wayfarer/api"
	"wayfarer/screen"
)

// heavy is a style of which no part is as in the one of the next number.
func heavy(i int) api.Style {
	if i%2 == 0 {
		return flagged(255&^(i%256), 255-i%100, 101+i%150)
	}
	return flagged(i%256, 100+i%100, 250-i%150)
}

// laden is a screen whose cells have all that a cell may have, no two beside each other in one style.
func laden(cols, rows, from int, isWide bool) api.Screen {
	s := fresh(cols, rows)
	for i := range s.Grid.Cells {
		x := api.Cell{Char: 0x10ffff, Marks: [3]rune{0xe0100, 0xe01ef, 0xe0101}, Wide: 1, Style: heavy(i + from)}
		if isWide && i%cols+1 < cols && i%cols%2 == 0 {
			x.Char, x.Wide = face, 2
			s.Grid.Cells[i+1] = api.Cell{Style: x.Style}
		}
		if !isWide || i%cols%2 == 0 {
			s.Grid.Cells[i] = x
		}
	}
	s.Row, s.Col = rows-1, cols-1
	s.Arrows, s.Paste, s.Visible, s.Title = true, true, false, runes(254, 0x10ffff)
	return s
}

// few is s, with every other cell of each row as in another one: neither a way nor a style is spared.
func few(s, other api.Screen) api.Screen {
	s = apart(s)
	for i := range s.Grid.Cells {
		if (i/s.Grid.Cols+i%s.Grid.Cols)%2 == 0 {
			s.Grid.Cells[i] = other.Grid.Cells[i]
		}
	}
	return s
}

// P19.2: no screen takes more than 160 bytes for each cell, 8 for each character of the title, and 400 more.
func TestBound(t *testing.T) {
	t.Parallel()
	for _, size := range [][2]int{{1, 1}, {2, 1}, {1, 3}, {5, 4}, {20, 12}, {512, 1}, {1, 512}} {
		cols, rows := size[0], size[1]
		first, second := laden(cols, rows, 0, false), laden(cols, rows, 1, false)
		for _, to := range []api.Screen{first, laden(cols, rows, 0, true), few(first, second), few(laden(cols, rows, 3, false), fresh(cols, rows))} {
			if !screen.May(to) {
				t.Fatalf("%s may not be", tellingOf(to))
			}
			check(t, fresh(cols, rows), to)
			check(t, second, to)
			check(t, to, fresh(cols, rows))
			if last := few(to, first); screen.May(last) {
				last.Row, last.Title = 0, nil
				check(t, to, last)
			}
		}
	}
	// Titles alone: what they take is told by their characters, not by the cells.
	for count := range 255 {
		to := titled(fresh(1, 1), runes(count, 0x10ffff))
		if b := check(t, fresh(1, 1), to); len(b) > 8*count+400 {
			t.Errorf("%d characters take %d bytes", count, len(b))
		}
	}
}

// P19.2: the largest screen. Of what a terminal makes of it just a few cells are looked at, as each action goes through all of them.
func TestLargest(t *testing.T) {
	t.Parallel()
	from := fresh(512, 512)
	to := odd(from)
	to.Title = nil
	for _, at := range []int{0, 511, 512, 511*512 - 1, 512*512 - 1} {
		to.Grid.Cells[at] = cellOf('A')
	}
	to.Row, to.Col = 511, 0
	check(t, from, to)
	heavyOne := laden(512, 512, 0, false)
	for _, c := range [][2]api.Screen{{from, heavyOne}, {heavyOne, from}, {heavyOne, laden(512, 512, 1, false)}, {from, from}} {
		b, e := Render(c[0], c[1])
		if e != api.OK || len(b) > most(c[1]) || (len(b) == 0) != screen.Same(c[0], c[1]) {
			t.Errorf("%d bytes, %d", len(b), e)
		}
	}
}
