package render

import (
	"math"
	"slices"
	"testing"

	"wayfarer/api"
	"wayfarer/model"
	"wayfarer/screen"
)

// P19.1: each part of the screen, by hand: from which of both it comes.
func TestAfter(t *testing.T) {
	from := api.Screen{
		Grid: gridOf("abc/def"), Row: 1, Col: 1, Style: plain(), Bottom: 1, Tabs: []int{0, 2}, Wrap: true, Arrows: true, Visible: true,
		Saved: api.Saved{Row: 1, Col: 2, Pend: true, Origin: true, Style: ground()}, Title: []rune("old"),
	}
	to := api.Screen{
		Grid: gridOf("aW-/3X="), Row: 0, Col: 2, Pend: true, Style: under(), Top: 1, Bottom: 1, Tabs: []int{1}, Origin: true, Insert: true, Paste: true,
		Saved: api.Saved{Col: 1, Style: under()}, Alt: true, Main: gridOf("xyz/zyx"), Title: []rune("new"),
	}
	want := api.Screen{
		Grid: gridOf("aW-/3X="), Row: 0, Col: 2, Style: plain(), Bottom: 1, Tabs: []int{0, 2}, Wrap: true, Paste: true,
		Saved: api.Saved{Row: 1, Col: 2, Pend: true, Origin: true, Style: ground()}, Title: []rune("new"),
	}
	if s, e := After(from, to); e != api.OK || !equal(s, want) || !model.Tame(s) {
		t.Errorf("%s, %d", tellingOf(s), e)
	}
	for _, title := range [][]rune{{7}, runes(255, 'a'), {0xd800}} {
		to.Title, want.Title = title, from.Title
		if s, e := After(from, to); e != api.OK || !equal(s, want) {
			t.Errorf("%s, %d", tellingOf(s), e)
		}
	}
	to.Title, want.Title = nil, nil
	if s, e := After(from, to); e != api.OK || !equal(s, want) {
		t.Errorf("%s, %d", tellingOf(s), e)
	}
	if s, e := After(from, from); e != api.OK || !equal(s, from) {
		t.Errorf("%s, %d", tellingOf(s), e)
	}
	if s, e := After(fresh(3, 2), from); e != api.OK || len(s.Tabs) != 0 || s.Saved != fresh(3, 2).Saved || !s.Arrows || s.Row != 1 || s.Col != 1 {
		t.Errorf("%s, %d", tellingOf(s), e)
	}
}

// changed is a name, and what changes a screen.
type changed struct {
	name string
	by   func(s *api.Screen)
}

// untamed is what makes a tame screen of at least 3 columns and 2 rows one that may be, but is not tame.
func untamed() []changed {
	return []changed{
		{"top", func(s *api.Screen) { s.Top = 1 }},
		{"bottom", func(s *api.Screen) { s.Bottom = 0 }},
		{"no wrap", func(s *api.Screen) { s.Wrap = false }},
		{"origin", func(s *api.Screen) { s.Origin = true }},
		{"insert", func(s *api.Screen) { s.Insert = true }},
		{"the other grid", func(s *api.Screen) { s.Alt, s.Main = true, s.Grid }},
		{"pends", func(s *api.Screen) { s.Col, s.Pend = s.Grid.Cols-1, true }},
		{"colour", func(s *api.Screen) { s.Style.Fg = 0 }},
		{"ground", func(s *api.Screen) { s.Style.Bg = 255 }},
		{"bold", func(s *api.Screen) { s.Style.Bold = true }},
		{"struck", func(s *api.Screen) { s.Style.Struck = true }},
	}
}

// broken is what makes it one that may not be.
func broken() []changed {
	cells := func(at int, x api.Cell) func(s *api.Screen) {
		return func(s *api.Screen) { s.Grid.Cells[at] = x }
	}
	return []changed{
		{"zero", func(s *api.Screen) { *s = api.Screen{} }},
		{"row below 0", func(s *api.Screen) { s.Row = -1 }},
		{"row below", func(s *api.Screen) { s.Row = s.Grid.Rows }},
		{"col below 0", func(s *api.Screen) { s.Col = least }},
		{"col behind", func(s *api.Screen) { s.Col = s.Grid.Cols }},
		{"pends at once", func(s *api.Screen) { s.Col, s.Pend = 0, true }},
		{"style", func(s *api.Screen) { s.Style.Fg = 256 }},
		{"top behind bottom", func(s *api.Screen) { s.Top, s.Bottom = 1, 0 }},
		{"bottom behind", func(s *api.Screen) { s.Bottom = s.Grid.Rows }},
		{"tabulators that do not rise", func(s *api.Screen) { s.Tabs = []int{1, 1} }},
		{"a tabulator behind", func(s *api.Screen) { s.Tabs = []int{s.Grid.Cols} }},
		{"saved row", func(s *api.Screen) { s.Saved.Row = s.Grid.Rows }},
		{"saved col", func(s *api.Screen) { s.Saved.Col = -1 }},
		{"saved pends", func(s *api.Screen) { s.Saved.Col, s.Saved.Pend = 0, true }},
		{"saved style", func(s *api.Screen) { s.Saved.Style.Bg = -2 }},
		{"a main grid that is not kept", func(s *api.Screen) { s.Main = s.Grid }},
		{"no main grid", func(s *api.Screen) { s.Alt = true }},
		{"a main grid of another size", func(s *api.Screen) { s.Alt, s.Main = true, gridOf("ab") }},
		{"a long title", func(s *api.Screen) { s.Title = runes(257, 'a') }},
		{"a title below 0", func(s *api.Screen) { s.Title = []rune{'a', -1} }},
		{"no cells", func(s *api.Screen) { s.Grid.Cells = nil }},
		{"one cell too few", func(s *api.Screen) { s.Grid.Cells = s.Grid.Cells[1:] }},
		{"one cell too many", func(s *api.Screen) { s.Grid.Cells = append(s.Grid.Cells, cellOf('a')) }},
		{"cols far", func(s *api.Screen) { s.Grid.Cols = greatest }},
		{"rows 1 << 32", func(s *api.Screen) { s.Grid.Rows = 1 << 32 }},
		{"both least", func(s *api.Screen) { s.Grid.Cols, s.Grid.Rows = least, least }},
		{"both far, no cells", func(s *api.Screen) { s.Grid = api.Grid{Cols: 1 << 32, Rows: 1 << 32} }},
		{"513 columns", func(s *api.Screen) { *s = fresh(513, 1) }},
		{"513 rows", func(s *api.Screen) { *s = fresh(1, 513) }},
		{"a zero cell", cells(1, api.Cell{})},
		{"a first half", cells(2, cellOf('W'))},
		{"a second half", cells(0, cellOf('-'))},
		{"a control", cells(0, api.Cell{Char: 10, Wide: 1, Style: plain()})},
		{"a mark that is none", cells(0, api.Cell{Char: 'a', Marks: [3]rune{'b'}, Wide: 1, Style: plain()})},
		{"a style that may not be", cells(0, api.Cell{Char: 'a', Wide: 1, Style: api.Style{Fg: 256}})},
	}
}

func checkRefused(t *testing.T, name string, from, to api.Screen) {
	t.Helper()
	if s, e := After(from, to); e != api.ErrArg || !equal(s, api.Screen{}) {
		t.Errorf("%s: After = %s, %d", name, tellingOf(s), e)
	}
	if b, e := Render(from, to); e != api.ErrArg || len(b) != 0 {
		t.Errorf("%s: Render = %q, %d", name, textOf(b), e)
	}
}

// P19.1, P19.2: a first screen that is not tame, screens that may not be.
func TestRefused(t *testing.T) {
	for _, picture := range []string{"abc/def", "aW-b/X=1. 1,1", ".../.../... 2,2 novisible"} {
		s := screenOf(picture)
		for _, c := range untamed() {
			other := apart(s)
			c.by(&other)
			if !screen.May(other) || model.Tame(other) {
				t.Fatalf("%s may not be, or is tame", c.name)
			}
			checkRefused(t, c.name, other, s)
			checkRefused(t, c.name+" twice", other, other)
			check(t, s, other)
		}
		for _, c := range broken() {
			other := apart(s)
			c.by(&other)
			if screen.May(other) {
				t.Fatalf("%s may be", c.name)
			}
			checkRefused(t, c.name+" first", other, s)
			checkRefused(t, c.name+" second", s, other)
			checkRefused(t, c.name+" twice", other, other)
		}
	}
}

// P19.1, P19.2: screens of unlike sizes, whose cells may be as many.
func TestSizes(t *testing.T) {
	sizes := [][2]int{{1, 1}, {1, 2}, {2, 1}, {2, 3}, {3, 2}, {6, 1}, {1, 6}, {512, 1}, {1, 512}, {511, 1}}
	for _, a := range sizes {
		for _, b := range sizes {
			from, to := fresh(a[0], a[1]), fresh(b[0], b[1])
			to.Grid.Cells[len(to.Grid.Cells)-1] = cellOf('a')
			if a == b {
				check(t, from, to)
				continue
			}
			checkRefused(t, "sizes", from, to)
		}
	}
}

// P19.3: Start at sizes at and past the bounds of layer 15.
func TestStartSizes(t *testing.T) {
	sides := []int{least, -1 << 32, -512, -1, 0, 1, 2, 80, 511, 512, 513, 1024, 1 << 16, 1 << 32, 1<<32 + 1, greatest}
	for _, cols := range sides {
		for _, rows := range sides {
			b, e := Start(cols, rows)
			if cols < 1 || cols > 512 || rows < 1 || rows > 512 {
				if e != api.ErrArg || len(b) != 0 {
					t.Errorf("Start(%d, %d) = %q, %d", cols, rows, textOf(b), e)
				}
				continue
			}
			if e != api.OK || len(b) == 0 || len(b) > 200 {
				t.Errorf("Start(%d, %d) = %q, %d", cols, rows, textOf(b), e)
			}
			if again, _ := Start(cols, rows); !slices.Equal(b, again) {
				t.Errorf("Start(%d, %d) = %q and then %q", cols, rows, textOf(b), textOf(again))
			}
		}
	}
	for _, s := range []api.Screen{fresh(512, 2), fresh(2, 512), fresh(512, 1), fresh(1, 512)} {
		checkStart(t, wild(s))
	}
}

// checkStart holds Start on a terminal of a screen that may be against P19.3.
func checkStart(t *testing.T, s api.Screen) {
	t.Helper()
	b, e := Start(s.Grid.Cols, s.Grid.Rows)
	shown, replies, quiet := played(s, b)
	want := titled(fresh(s.Grid.Cols, s.Grid.Rows), s.Title)
	if e != api.OK || !screen.May(s) || !equal(shown, want) || len(replies) > 0 || !quiet {
		t.Errorf("Start on %s makes\n%s\nand replies %q, quiet is %t", tellingOf(s), tellingOf(shown), replies, quiet)
	}
}

// P19.3: Start on terminals in every state.
func TestStart(t *testing.T) {
	titles := [][]rune{nil, []rune("tea"), {0, 7, 127, 0xd800, math.MaxInt32}, runes(256, 'x')}
	for i, picture := range []string{"a", ".", "abc/def", "aW-/X=1 1,2+ 1-1", "~_,/W-. 0,2+ 0-0", "ab./... 0,0 1-1 origin insert nowrap novisible ground", "abc/def/ghi 2,2 1-2 arrows paste under"} {
		s := screenOf(picture)
		s.Title = titles[i%len(titles)]
		checkStart(t, s)
		checkStart(t, odd(s))
		checkStart(t, wild(s))
		if len(s.Grid.Cells) < 6 {
			continue
		}
		for _, c := range untamed() {
			other := apart(s)
			c.by(&other)
			if screen.May(other) {
				checkStart(t, other)
			}
		}
	}
}
