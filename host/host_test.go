package host

import (
	"math"
	"testing"

	"wayfarer/api"
	"wayfarer/model"
	"wayfarer/screen"
)

// changed is a name, and what changes a screen.
type changed struct {
	name string
	by   func(s *api.Screen)
}

// borne is what makes a state of at least 3 columns and 2 rows another one that may be, in one thing alone.
func borne() []changed {
	at := func(i int) func(s *api.Screen) *api.Cell {
		return func(s *api.Screen) *api.Cell { return &s.Grid.Cells[i] }
	}
	first := at(0)
	return []changed{
		{"character", func(s *api.Screen) { *first(s) = cellOf('q') }},
		{"last character", func(s *api.Screen) { s.Grid.Cells[len(s.Grid.Cells)-1] = cellOf('q') }},
		{"mark", func(s *api.Screen) { first(s).Marks[0] = second }},
		{"three marks", func(s *api.Screen) { first(s).Marks = [3]rune{third, third, mark} }},
		{"wide", func(s *api.Screen) { *first(s), *at(1)(s) = cellOf('F'), cellOf('-') }},
		{"colour", func(s *api.Screen) { first(s).Style.Fg = 0 }},
		{"last colour", func(s *api.Screen) { first(s).Style.Fg = 255 }},
		{"ground", func(s *api.Screen) { first(s).Style.Bg = 0 }},
		{"bold", func(s *api.Screen) { first(s).Style.Bold = true }},
		{"faint", func(s *api.Screen) { first(s).Style.Faint = true }},
		{"italic", func(s *api.Screen) { first(s).Style.Italic = true }},
		{"under", func(s *api.Screen) { first(s).Style.Under = true }},
		{"blink", func(s *api.Screen) { first(s).Style.Blink = true }},
		{"inverse", func(s *api.Screen) { first(s).Style.Inverse = true }},
		{"hidden", func(s *api.Screen) { first(s).Style.Hidden = true }},
		{"struck", func(s *api.Screen) { first(s).Style.Struck = true }},
		{"row", func(s *api.Screen) { s.Row = 1 - min(s.Row, 1) }},
		{"last col", func(s *api.Screen) { s.Col = s.Grid.Cols - 1 }},
		{"visible", func(s *api.Screen) { s.Visible = !s.Visible }},
		{"arrows", func(s *api.Screen) { s.Arrows = !s.Arrows }},
		{"paste", func(s *api.Screen) { s.Paste = !s.Paste }},
		{"title", func(s *api.Screen) { s.Title = []rune("tea") }},
		{"a like title", func(s *api.Screen) { s.Title = []rune("teb") }},
		{"blank title", func(s *api.Screen) { s.Title = []rune(" ;\u00a0\x80\ufffd\U0010ffff") }},
		{"longest title", func(s *api.Screen) { s.Title = runes(254, wide) }},
	}
}

// unborne is what makes such a state without a title a screen that may be, and that is not as a new one in what no state bears.
func unborne() []changed {
	return []changed{
		{"top", func(s *api.Screen) { s.Top = 1 }},
		{"bottom", func(s *api.Screen) { s.Bottom = 0 }},
		{"no wrap", func(s *api.Screen) { s.Wrap = false }},
		{"origin", func(s *api.Screen) { s.Origin = true }},
		{"insert", func(s *api.Screen) { s.Insert = true }},
		{"the other grid", func(s *api.Screen) { s.Alt, s.Main = true, gridOf("xyz/zyx") }},
		{"pen colour", func(s *api.Screen) { s.Style.Fg = 0 }},
		{"pen ground", func(s *api.Screen) { s.Style.Bg = 255 }},
		{"bold pen", func(s *api.Screen) { s.Style.Bold = true }},
		{"struck pen", func(s *api.Screen) { s.Style.Struck = true }},
		{"a tabulator", func(s *api.Screen) { s.Tabs = []int{0} }},
		{"the last tabulator", func(s *api.Screen) { s.Tabs = []int{s.Grid.Cols - 1} }},
		{"all tabulators", func(s *api.Screen) { s.Tabs = []int{0, 1, 2} }},
		{"saved row", func(s *api.Screen) { s.Saved.Row = 1 }},
		{"saved col", func(s *api.Screen) { s.Saved.Col = 2 }},
		{"saved pends", func(s *api.Screen) { s.Saved.Col, s.Saved.Pend = s.Grid.Cols-1, true }},
		{"saved origin", func(s *api.Screen) { s.Saved.Origin = true }},
		{"saved style", func(s *api.Screen) { s.Saved.Style.Bold = true }},
		{"saved zero style", func(s *api.Screen) { s.Saved.Style = api.Style{} }},
		{"title of controls", func(s *api.Screen) { s.Title = []rune("a\x1fb") }},
		{"title of rubout", func(s *api.Screen) { s.Title = []rune{127} }},
		{"title of nought", func(s *api.Screen) { s.Title = []rune{0} }},
		{"title of a surrogate", func(s *api.Screen) { s.Title = []rune{'a', 0xd800} }},
		{"title of the last surrogate", func(s *api.Screen) { s.Title = []rune{0xdfff} }},
		{"title of no character", func(s *api.Screen) { s.Title = []rune{0x110000} }},
		{"title of the greatest number", func(s *api.Screen) { s.Title = []rune{math.MaxInt32, 'a'} }},
		{"title of 255", func(s *api.Screen) { s.Title = runes(255, 'a') }},
		{"title of 256", func(s *api.Screen) { s.Title = runes(256, wide) }},
	}
}

// broken is what makes it a screen that may not be.
func broken() []changed {
	cells := func(at int, x api.Cell) func(s *api.Screen) {
		return func(s *api.Screen) { s.Grid.Cells[at] = x }
	}
	return []changed{
		{"zero", func(s *api.Screen) { *s = api.Screen{} }},
		{"row below 0", func(s *api.Screen) { s.Row = -1 }},
		{"row below", func(s *api.Screen) { s.Row = s.Grid.Rows }},
		{"col below 0", func(s *api.Screen) { s.Col = least }},
		{"col behind", func(s *api.Screen) { s.Col = s.Grid.Cols }},
		{"col far", func(s *api.Screen) { s.Col = greatest }},
		{"pends at once", func(s *api.Screen) { s.Col, s.Pend = 0, true }},
		{"colour", func(s *api.Screen) { s.Style.Fg = 256 }},
		{"ground", func(s *api.Screen) { s.Style.Bg = -2 }},
		{"top below 0", func(s *api.Screen) { s.Top = -1 }},
		{"top behind bottom", func(s *api.Screen) { s.Top, s.Bottom = 1, 0 }},
		{"bottom below 0", func(s *api.Screen) { s.Bottom = -1 }},
		{"bottom behind", func(s *api.Screen) { s.Bottom = s.Grid.Rows }},
		{"tabulators that do not rise", func(s *api.Screen) { s.Tabs = []int{1, 1} }},
		{"tabulators that fall", func(s *api.Screen) { s.Tabs = []int{1, 0} }},
		{"a tabulator below 0", func(s *api.Screen) { s.Tabs = []int{-1} }},
		{"a tabulator behind", func(s *api.Screen) { s.Tabs = []int{s.Grid.Cols} }},
		{"saved row", func(s *api.Screen) { s.Saved.Row = s.Grid.Rows }},
		{"saved col", func(s *api.Screen) { s.Saved.Col = -1 }},
		{"saved pends", func(s *api.Screen) { s.Saved.Col, s.Saved.Pend = 0, true }},
		{"saved style", func(s *api.Screen) { s.Saved.Style.Bg = 256 }},
		{"a main grid that is not kept", func(s *api.Screen) { s.Main = gridOf("xyz/zyx") }},
		{"a size of none that is kept", func(s *api.Screen) { s.Main.Cols = 1 }},
		{"no main grid", func(s *api.Screen) { s.Alt = true }},
		{"a main grid of another size", func(s *api.Screen) { s.Alt, s.Main = true, gridOf("ab") }},
		{"a main grid that may not be", func(s *api.Screen) { s.Alt, s.Main = true, gridOf("xyW/zyx") }},
		{"a long title", func(s *api.Screen) { s.Title = runes(257, 'a') }},
		{"a title below 0", func(s *api.Screen) { s.Title = []rune{'a', -1} }},
		{"no cells", func(s *api.Screen) { s.Grid.Cells = nil }},
		{"one cell too few", func(s *api.Screen) { s.Grid.Cells = s.Grid.Cells[1:] }},
		{"one cell too many", func(s *api.Screen) { s.Grid.Cells = append(s.Grid.Cells, cellOf('a')) }},
		{"cols and rows turned about", func(s *api.Screen) { s.Grid.Cols, s.Grid.Rows = -s.Grid.Cols, -s.Grid.Rows }},
		{"cols far", func(s *api.Screen) { s.Grid.Cols = greatest }},
		{"rows 1 << 32", func(s *api.Screen) { s.Grid.Rows = 1 << 32 }},
		{"both least", func(s *api.Screen) { s.Grid.Cols, s.Grid.Rows = least, least }},
		{"both far, no cells", func(s *api.Screen) { s.Grid = api.Grid{Cols: 1 << 32, Rows: 1 << 32} }},
		{"513 columns", func(s *api.Screen) { *s = fresh(513, 1) }},
		{"513 rows", func(s *api.Screen) { *s = fresh(1, 513) }},
		{"a zero cell", cells(1, api.Cell{})},
		{"a first half", cells(2, cellOf('W'))},
		{"a second half", cells(0, cellOf('-'))},
		{"a control", cells(0, api.Cell{Char: 10, Wide: 1, Style: plain()})},
		{"a mark that is none", cells(0, api.Cell{Char: 'a', Marks: [3]rune{'b'}, Wide: 1, Style: plain()})},
		{"a style that may not be", cells(0, api.Cell{Char: 'a', Wide: 1, Style: api.Style{Fg: 256}})},
	}
}

// bases is states without a title that what is above may be done to.
func bases() []api.Host {
	return []api.Host{stateOf("abc/def", 0), stateOf(".../... 1,1", 7), stateOf("1Ac/W-3 0,1 arrows novisible", 1<<64-1)}
}

// echoes is echoes, the edges of a number's forms and of a number among them.
func echoes() []uint64 {
	return []uint64{0, 1, 127, 128, 16383, 16384, 1<<32 - 1, 1 << 32, 1<<63 - 1, 1 << 63, 1<<64 - 1}
}

// P22.1: of a new screen the state is that screen, with each echo.
func TestOfNew(t *testing.T) {
	for _, size := range [][2]int{{1, 1}, {3, 1}, {1, 3}, {8, 1}, {9, 2}, {80, 24}, {512, 1}, {1, 512}} {
		for _, echo := range echoes() {
			h := checkOf(t, fresh(size[0], size[1]), echo)
			if h.Echo != echo || !equal(h.Screen, fresh(size[0], size[1])) {
				t.Errorf("%s", tellingState(h))
			}
		}
	}
	h := checkOf(t, fresh(512, 512), 1)
	if !equal(h.Screen, fresh(512, 512)) {
		t.Error("the greatest new screen is another one")
	}
}

// P22.1: what a state has of a screen, by hand: all that is written, the cursor, Visible, Title, Arrows and Paste, and nothing else.
func TestOf(t *testing.T) {
	s := api.Screen{
		Grid: gridOf("aW-/3X="), Row: 0, Col: 2, Pend: true, Style: under(), Top: 1, Bottom: 1, Tabs: []int{1}, Origin: true, Insert: true, Arrows: true, Paste: true,
		Saved: api.Saved{Row: 1, Col: 1, Origin: true, Style: under()}, Alt: true, Main: gridOf("xyz/zyx"), Title: []rune("new"),
	}
	want := api.Screen{
		Grid: gridOf("aW-/3X="), Row: 0, Col: 2, Style: plain(), Bottom: 1, Wrap: true, Arrows: true, Paste: true,
		Saved: api.Saved{Style: plain()}, Title: []rune("new"),
	}
	if h := checkOf(t, s, 8); !equal(h.Screen, want) || h.Echo != 8 {
		t.Errorf("%s", tellingState(h))
	}
	s.Title, s.Visible = []rune{7}, true
	want.Title, want.Visible = nil, true
	if h := checkOf(t, s, 0); !equal(h.Screen, want) || h.Echo != 0 {
		t.Errorf("%s", tellingState(h))
	}
}

// P22.1: a terminal that was written on.
func TestOfWritten(t *testing.T) {
	for _, c := range []struct{ bytes, want string }{
		{"", ".../... 0,0"}, {"ab", "ab./... 0,2"}, {"abc", "abc/... 0,2"}, {"abcd", "abc/d.. 1,1"}, {"&[2;2H&[1;31;44ma", ".../.A. 1,2"},
		{"ab&[2;2H&[?6h", "ab./... 0,0"}, {"&[4ha&[3g&[1m", "a../... 0,1"}, {"ab&7&[H", "ab./... 0,0"}, {"ab&[?1049hc", "..c/... 0,2"}, {"ab&[?1049hc&[?1049l", "ab./... 0,2"}, {"&[?47h&[41mq", "q../... 0,1"},
		{"&[?25la", "a../... 0,1 novisible"}, {"&[?1;2004ha", "a../... 0,1 arrows paste"}, {"&[?7labcd", "abd/... 0,2"}, {"a\xe4\xb8\xad", "aW-/... 0,2"}, {"a\xcc\x81", "1../... 0,1"},
	} {
		want := screenOf(c.want)
		if c.bytes == "&[?47h&[41mq" {
			want.Grid.Cells[0].Style = api.Style{Fg: -1, Bg: 1}
		}
		if h := shown(t, 3, 2, c.bytes, 3); !equal(h.Screen, want) || h.Echo != 3 {
			t.Errorf("of %q: %s", c.bytes, tellingState(h))
		}
	}
	for _, c := range []struct{ bytes, title string }{
		{"&]2;tea\a", "tea"}, {"&]0;\a", ""}, {"&]2;\u4e2d\U0010ffff\x80\a", "\u4e2d\U0010ffff\ufffd"}, {"&]2;" + string(runes(254, 'a')) + "\a", string(runes(254, 'a'))}, {"&]2;\xff\a", "\ufffd"},
	} {
		if h := shown(t, 3, 2, c.bytes, 0); string(h.Screen.Title) != c.title {
			t.Errorf("of %q: the title %q", c.bytes, string(h.Screen.Title))
		}
	}
}

// P22.1: what a state bears, and what it does not, one thing after the other.
func TestOfEach(t *testing.T) {
	for _, base := range bases() {
		for _, c := range borne() {
			h := changedBy(base, c.by)
			if got := checkOf(t, h.Screen, h.Echo); !sameState(got, h) {
				t.Errorf("%s: Of = %s", c.name, tellingState(got))
			}
		}
		for _, c := range unborne() {
			h := changedBy(base, c.by)
			if !screen.May(h.Screen) {
				t.Fatalf("%s may not be", c.name)
			}
			if got := checkOf(t, h.Screen, h.Echo); !sameState(got, base) {
				t.Errorf("%s: Of = %s", c.name, tellingState(got))
			}
		}
		pends := changedBy(base, func(s *api.Screen) { s.Col = s.Grid.Cols - 1 })
		if got := checkOf(t, changedBy(pends, func(s *api.Screen) { s.Pend = true }).Screen, base.Echo); !sameState(got, pends) {
			t.Errorf("pends: Of = %s", tellingState(got))
		}
		s := wild(base.Screen)
		if got := checkOf(t, s, 5); got.Echo != 5 || !model.Tame(got.Screen) || len(got.Screen.Title) != 0 || !got.Screen.Arrows || !got.Screen.Paste {
			t.Errorf("wild: Of = %s", tellingState(got))
		}
	}
}

// P22.1: a screen that may not be, in each way, has no state, with whatever echo.
func TestOfRefused(t *testing.T) {
	for _, base := range bases() {
		for _, c := range broken() {
			s := changedBy(base, c.by).Screen
			if screen.May(s) {
				t.Fatalf("%s may be", c.name)
			}
			for _, echo := range []uint64{0, 1, 1<<64 - 1} {
				if h, e := Of(s, echo); e != api.ErrArg || !sameState(h, api.Host{}) {
					t.Errorf("%s: Of = %s, %d", c.name, tellingState(h), e)
				}
			}
		}
	}
}

// P22.1: May of each of these: of states, of screens that may be and are none, of such as may not be.
func TestMay(t *testing.T) {
	for _, base := range bases() {
		checkMay(t, base, true)
		for _, echo := range echoes() {
			h := base
			h.Echo = echo
			checkMay(t, h, true)
		}
		for _, c := range borne() {
			checkMay(t, changedBy(base, c.by), true)
		}
		for _, c := range append(unborne(), broken()...) {
			h := changedBy(base, c.by)
			checkMay(t, h, false)
			h.Echo = 0
			checkMay(t, h, false)
		}
		checkMay(t, changedBy(base, func(s *api.Screen) { s.Col, s.Pend = s.Grid.Cols-1, true }), false)
		checkMay(t, changedBy(base, func(s *api.Screen) { *s = wild(*s) }), false)
		checkMay(t, changedBy(base, func(s *api.Screen) { *s = odd(*s) }), false)
	}
	for _, tabs := range [][]int{nil, {8}, {16}, {8, 16}, {8, 15}, {8, 16, 24}, {0, 8, 16}, {8, 9, 16}, {8, 16, 24, 25}, {16, 24}} {
		h := api.Host{Screen: fresh(26, 1)}
		h.Screen.Tabs = tabs
		checkMay(t, h, len(tabs) == 3 && tabs[0] == 8 && tabs[2] == 24)
	}
	checkMay(t, api.Host{}, false)
	checkMay(t, api.Host{Echo: 1}, false)
	checkMay(t, api.Host{Screen: fresh(512, 512)}, true)
}

// P22.1: Same of states that part in one thing alone, be they such as may be or not.
func TestSame(t *testing.T) {
	for _, base := range bases() {
		l := []api.Host{base, changedBy(base, func(s *api.Screen) { s.Col, s.Pend = s.Grid.Cols-1, true }), {}, {Echo: 1}}
		for _, c := range append(append(borne(), unborne()...), broken()[1:]...) {
			l = append(l, changedBy(base, c.by))
		}
		for _, a := range l {
			for _, b := range append(l, api.Host{Screen: a.Screen, Echo: a.Echo + 1}, api.Host{Screen: a.Screen, Echo: a.Echo + 1<<63}, api.Host{Screen: a.Screen}) {
				if want := sameState(a, b); Same(a, stateApart(b)) != want || Same(stateApart(b), a) != want {
					t.Errorf("Same(%s,\n%s) is not %t", tellingState(a), tellingState(b), want)
				}
			}
		}
	}
}

// P22.1: lists that are nil and lists without elements are the same.
func TestSameEmpty(t *testing.T) {
	a, b := stateOf("abc/def", 1), stateOf("abc/def", 1)
	a.Screen.Tabs, a.Screen.Title, a.Screen.Main.Cells = nil, nil, nil
	b.Screen.Tabs, b.Screen.Title, b.Screen.Main.Cells = []int{}, []rune{}, []api.Cell{}
	if !Same(a, b) || !Same(b, a) || !May(a) || !May(b) || !Same(api.Host{}, api.Host{Screen: api.Screen{Grid: api.Grid{Cells: []api.Cell{}}}}) {
		t.Error("nil and empty lists are told apart")
	}
	checkDiff(t, a, b)
	checkDiff(t, b, a)
}
