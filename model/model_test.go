package model

import (
	"math"
	"slices"
	"strings"
	"testing"

	"wayfarer/api"
	"wayfarer/cell"
	"wayfarer/screen"
)

// What the pictures stand for is what the layers below make.
func TestMarks(t *testing.T) {
	for _, sign := range []byte(marks) {
		if !cell.May(cellOf(sign)) {
			t.Errorf("%c may not be", sign)
		}
	}
	text := "a\u0301a\u0301\u0302\U000e0100\u4e2d\u0301\U0001f600 \u0301\xff&[4m &[;1;31;44mz\u4e2d&[K"
	if picture := pictureOf(of(t, 14, 1, text).Grid); picture != "13M-F-,R~ZX=__" {
		t.Errorf("%s", picture)
	}
	s, e := screen.New(20, 2)
	if e != api.OK || !equal(s, fresh(20, 2)) {
		t.Errorf("%s", tellingOf(s))
	}
}

// P18.1, P18.2: the examples of the chapter.
func TestExamples(t *testing.T) {
	if text, e := Text(of(t, 5, 2, "ab\r\nc")); text != "ab\nc\n" || e != api.OK {
		t.Errorf("Text = %q, %d", text, e)
	}
	if l, e := Differ(seeOf(t, 3, 1, "ab"), seeOf(t, 3, 1, "ac")); !slices.Equal(l, []int{1}) || e != api.OK {
		t.Errorf("Differ = %d, %d", l, e)
	}
	if !Tame(of(t, 3, 1, "")) || Tame(of(t, 3, 1, "abc")) {
		t.Error("Tame")
	}
}

// P18.1: Of at sizes at and past the bounds of layer 15.
func TestOfSizes(t *testing.T) {
	sides := []int{least, -1 << 32, -512, -1, 0, 1, 2, 511, 512, 513, 1024, 1 << 16, 1 << 32, 1<<32 + 1, greatest}
	for _, cols := range sides {
		for _, rows := range sides {
			s, e := Of(cols, rows, []byte("a"))
			if cols < 1 || cols > 512 || rows < 1 || rows > 512 {
				if e != api.ErrArg || !equal(s, api.Screen{}) {
					t.Errorf("Of(%d, %d) = %s, %d", cols, rows, tellingOf(s), e)
				}
				continue
			}
			want := fresh(cols, rows)
			want.Grid.Cells[0] = cellOf('a')
			want.Col, want.Pend = min(1, cols-1), cols == 1
			if e != api.OK || !equal(s, want) {
				t.Errorf("Of(%d, %d) = %d", cols, rows, e)
			}
		}
	}
}

// written is a size, bytes, and what a new screen of that size becomes by them.
type written struct {
	cols, rows  int
	bytes, want string
}

func checkWritten(t *testing.T, l []written) {
	t.Helper()
	for _, c := range l {
		want := become(fresh(c.cols, c.rows), c.want)
		if s := of(t, c.cols, c.rows, c.bytes); !equal(s, want) {
			t.Errorf("Of(%d, %d, %q)\n= %s\nnot %s", c.cols, c.rows, c.bytes, tellingOf(s), tellingOf(want))
		}
	}
}

// P18.1: Of with bytes of all kinds, and with none.
func TestOf(t *testing.T) {
	checkWritten(t, []written{
		{3, 2, "", "= 0,0"}, {20, 2, "", "= 0,0"}, {3, 2, "abcd", "abc/d.. 1,1"}, {3, 2, "a\u4e2db", "aW-/b.. 1,1"}, {3, 1, "a\u0301\U0001f600", "1F- 0,2+"},
		// Bytes that are no form of a character, and forms that have not ended.
		{3, 1, "a\xffb", "aRb 0,2+"}, {3, 1, "\xc0\x80", "RR. 0,2"}, {3, 1, "\xe4\xb8a", "Ra. 0,2"}, {4, 1, "\xed\xa0\x80", "RRR. 0,3"}, {3, 1, "a\xe4\xb8", "a.. 0,1"}, {3, 1, "\xf0\x9f\x98", "= 0,0"},
		// Sequences that have not ended.
		{3, 2, "a&", "a../... 0,1"}, {3, 2, "a&[", "a../... 0,1"}, {3, 2, "a&[2;2", "a../... 0,1"}, {3, 2, "a&[2;2H", "a../... 1,1"}, {3, 2, "a&]2;t", "a../... 0,1"}, {3, 2, "a&Pbc", "a../... 0,1"},
		// Resets.
		{3, 2, "abcd&c", "= 0,0"}, {3, 2, "&[1;31;44mab&[?25;7l&[4h&[2;2r&7&cx", "x../... 0,1"}, {3, 2, "ab&[?1049hc&c", "= 0,0"},
		// Modes, styles, what is kept.
		{3, 2, "&[?25l", "= 0,0 novisible"}, {3, 2, "&[?7l&[4h&[?1;2004h", "= 0,0 nowrap insert arrows paste"}, {3, 2, "a&[?6h", "a../... 0,0 origin"}, {3, 3, "&[2;3ra", "a../.../... 0,1 1-2"},
		{3, 1, "a&[1;31;44mb", "aB. 0,2 ground"}, {3, 1, "&[4m ", "~.. 0,1 under"}, {3, 1, "ab&7", "ab. 0,2 keep"},
		// What is replied is nobody's.
		{3, 1, "a&[6n&[cb", "ab. 0,2"},
	})
	s, e := Of(3, 2, nil)
	if e != api.OK || !equal(s, fresh(3, 2)) {
		t.Errorf("Of nil = %s, %d", tellingOf(s), e)
	}
}

// P18.1: Of with titles.
func TestOfTitles(t *testing.T) {
	long := strings.Repeat("t", 300)
	for _, c := range []struct{ bytes, want string }{
		{"&]2;tea\x07", "tea"}, {"&]0;tea&\\", "tea"}, {"&]2;\u4e2d\u0301\x07", "\u4e2d\u0301"}, {"&]2;a\x07&]2;b\x07", "b"}, {"&]2;a\x07&]2;\x07", ""}, {"&]2;a\x07&]2;b", "a"},
		{"&]2;tea\x07&c", "tea"}, {"&]1;tea\x07", ""}, {"&]2;\xff\x07", "\ufffd"}, {"&]2;" + long + "\x07", long[:254]},
	} {
		want := fresh(3, 1)
		want.Title = []rune(c.want)
		if s := of(t, 3, 1, c.bytes); !equal(s, want) {
			t.Errorf("Of %q has the title %q, not %q", c.bytes, string(s.Title), c.want)
		}
	}
}

// P18.1: Of with the other grid shown, and the first one again.
func TestOfGrids(t *testing.T) {
	want := withMain(become(fresh(3, 2), "..b/... 0,2+"), "ab./...")
	if s := of(t, 3, 2, "ab&[?47hb"); !equal(s, want) {
		t.Errorf("%s\nnot %s", tellingOf(s), tellingOf(want))
	}
	want.Saved = api.Saved{Col: 2, Style: plain()}
	if s := of(t, 3, 2, "ab&[?1049hb"); !equal(s, want) {
		t.Errorf("%s\nnot %s", tellingOf(s), tellingOf(want))
	}
	checkWritten(t, []written{{3, 2, "ab&[?47hb&[?47l", "ab./... 0,2+"}, {3, 2, "ab&[?1047hbcd&[?1047l", "ab./... 1,2"}, {3, 2, "&[?1049ha&[?1049lb", "b../... 0,1"}})
	back := become(fresh(3, 2), "= 0,1 keep")
	if s := of(t, 3, 2, "a&[?1049hbc\n&[?1049lx"); !equal(s, become(back, "ax./... 0,2")) {
		t.Errorf("%s", tellingOf(s))
	}
}

// tameOnes is screens that are tame.
func tameOnes() []api.Screen {
	l := []api.Screen{fresh(1, 1), fresh(3, 2), fresh(512, 1), fresh(1, 512)}
	for _, text := range []string{"a", "abc/de. 0,2", "aW-/X=1 1,0 noarrows", "3M-/~,_ 1,2 paste novisible", "abc/def/ghi 2,2 visible"} {
		l = append(l, screenOf(text))
	}
	return l
}

// P18.1: See of screens that may be tells just what it is to tell.
func TestSee(t *testing.T) {
	for _, c := range []struct {
		s    api.Screen
		want api.View
	}{
		{fresh(2, 1), api.View{Grid: gridOf(".."), Visible: true}},
		{screenOf("aW-/X=1 1,2+ novisible nowrap origin"), api.View{Grid: gridOf("aW-/X=1"), Row: 1, Col: 2, Title: []rune{'t', 0, math.MaxInt32}}},
		{screenOf("abc/3,~ 0,1 ground insert 1-1"), api.View{Grid: gridOf("abc/3,~"), Col: 1, Visible: true, Title: []rune{'t', 0, math.MaxInt32}}},
		{withMain(screenOf("ab/cd 1,0"), "xy/z."), api.View{Grid: gridOf("ab/cd"), Row: 1, Visible: true, Title: []rune{'t', 0, math.MaxInt32}}},
	} {
		if v := see(t, c.s); !equalViews(v, c.want) {
			t.Errorf("See(%s)\n= %s\nnot %s", tellingOf(c.s), tellingOfView(v), tellingOfView(c.want))
		}
	}
	v := seeOf(t, 3, 2, "ab\r\n\u4e2d&]2;tea\x07&[?25l")
	if want := (api.View{Grid: gridOf("ab./W-."), Row: 1, Col: 2, Title: []rune("tea")}); !equalViews(v, want) {
		t.Errorf("%s", tellingOfView(v))
	}
}

// P18.1, P18.2: screens that may not be are refused, and are not tame.
func TestBroken(t *testing.T) {
	for _, from := range []api.Screen{fresh(3, 2), screenOf("abc/d1. 1,1"), screenOf("abc/W-1 0,2")} {
		for _, c := range broken() {
			s := apart(from)
			c.by(&s)
			if screen.May(s) {
				t.Fatalf("%s: may be", c.name)
			}
			if v, e := See(s); e != api.ErrArg || !equalViews(v, api.View{}) {
				t.Errorf("%s: See = %s, %d", c.name, tellingOfView(v), e)
			}
			if text, e := Text(s); e != api.ErrArg || text != "" {
				t.Errorf("%s: Text = %q, %d", c.name, text, e)
			}
			if Tame(s) {
				t.Errorf("%s: tame", c.name)
			}
		}
	}
}

// P18.1: Tame of tame ones, of those that part from one in one field alone, and of those that part in what is of no weight.
func TestTame(t *testing.T) {
	wild := []changed{
		{"top", func(s *api.Screen) { s.Top = 1 }},
		{"bottom", func(s *api.Screen) { s.Bottom-- }},
		{"wrap", func(s *api.Screen) { s.Wrap = false }},
		{"origin", func(s *api.Screen) { s.Origin = true }},
		{"insert", func(s *api.Screen) { s.Insert = true }},
		{"alt", func(s *api.Screen) { *s = withMain(*s, pictureOf(s.Grid)) }},
		{"pend", func(s *api.Screen) { s.Col, s.Pend = s.Grid.Cols-1, true }},
		{"fg", func(s *api.Screen) { s.Style.Fg = 0 }},
		{"bg", func(s *api.Screen) { s.Style.Bg = 255 }},
		{"zero style", func(s *api.Screen) { s.Style = api.Style{} }},
		{"bold", func(s *api.Screen) { s.Style.Bold = true }},
		{"faint", func(s *api.Screen) { s.Style.Faint = true }},
		{"italic", func(s *api.Screen) { s.Style.Italic = true }},
		{"under", func(s *api.Screen) { s.Style.Under = true }},
		{"blink", func(s *api.Screen) { s.Style.Blink = true }},
		{"inverse", func(s *api.Screen) { s.Style.Inverse = true }},
		{"hidden", func(s *api.Screen) { s.Style.Hidden = true }},
		{"struck", func(s *api.Screen) { s.Style.Struck = true }},
	}
	still := []changed{
		{"row", func(s *api.Screen) { s.Row = s.Grid.Rows - 1 }},
		{"col", func(s *api.Screen) { s.Col = s.Grid.Cols - 1 }},
		{"cells", func(s *api.Screen) { s.Grid.Cells[0] = cellOf('Y') }},
		{"arrows", func(s *api.Screen) { s.Arrows = !s.Arrows }},
		{"paste", func(s *api.Screen) { s.Paste = !s.Paste }},
		{"visible", func(s *api.Screen) { s.Visible = !s.Visible }},
		{"tabulators", func(s *api.Screen) { s.Tabs = []int{s.Grid.Cols - 1} }},
		{"title", func(s *api.Screen) { s.Title = []rune("another") }},
		{"no title", func(s *api.Screen) { s.Title = nil }},
		{"no main cells", func(s *api.Screen) { s.Main.Cells = []api.Cell{} }},
		{"saved", func(s *api.Screen) {
			s.Saved = api.Saved{Row: s.Grid.Rows - 1, Col: s.Grid.Cols - 1, Pend: true, Origin: true, Style: ground()}
		}},
	}
	for _, from := range tameOnes() {
		if !screen.May(from) || !Tame(from) {
			t.Fatalf("not tame: %s", tellingOf(from))
		}
		for _, c := range still {
			if s := apart(from); !tameBehind(s, c) {
				t.Errorf("%s: not tame: %s", c.name, tellingOf(s))
			}
		}
		for _, c := range wild {
			if s := apart(from); from.Grid.Rows > 1 && tameBehind(s, c) {
				t.Errorf("%s: tame: %s", c.name, tellingOf(s))
			}
		}
	}
	if Tame(api.Screen{}) || Tame(api.Screen{Grid: api.Grid{Rows: least}, Wrap: true, Style: plain(), Bottom: greatest}) {
		t.Error("tame though it may not be")
	}
}

func tameBehind(s api.Screen, c changed) bool {
	c.by(&s)
	return Tame(s)
}

// P18.1: Tame of what bytes make.
func TestTameBytes(t *testing.T) {
	for _, text := range []string{"", "a", "ab", "abc\r", "&[31mab&[m", "&[?25l&[?1h&[?2004h", "&[3g&7&]2;t\x07", "a&[?47h&[?47l", "&[2;2r&[r", "\xe4", "&[", "&[1;31mabcdef&c"} {
		if !Tame(of(t, 3, 2, text)) {
			t.Errorf("%q: not tame", text)
		}
	}
	for _, text := range []string{"abc", "&[31mab", "&[1;1r", "&[?7l", "&[?6h", "&[4h", "&[?47h", "&[?1049h", "&[7m", "&[1;31mabcdef&c&[4h"} {
		if got := Tame(of(t, 3, 2, text)); got != (text == "&[1;1r") {
			t.Errorf("%q: tame: %t", text, got)
		}
	}
	if Tame(of(t, 3, 3, "&[1;2r")) || Tame(of(t, 3, 3, "&[2;3r")) {
		t.Error("tame though rows do not scroll")
	}
}
