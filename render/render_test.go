package render

import (
	"math"
	"slices"
	"testing"

	"wayfarer/api"
	"wayfarer/cell"
	"wayfarer/emulator"
	"wayfarer/model"
	"wayfarer/screen"
)

// What the pictures stand for is what the layers below make.
func TestMarks(t *testing.T) {
	for _, sign := range []byte(marks) {
		if !cell.May(cellOf(sign)) {
			t.Errorf("%c may not be", sign)
		}
	}
	text := "a\u0301a\u0301\u0302\U000e0100\u4e2d\u0301\U0001f600 \u0301\xff&[4m &[;1;31;44mz\u4e2d&[K"
	if picture := pictureOf(of(t, 14, 1, text).Grid); picture != "13M-F-,R~ZX=__" {
		t.Errorf("%s", picture)
	}
	s, e := screen.New(20, 2)
	if e != api.OK || !equal(s, fresh(20, 2)) {
		t.Errorf("%s", tellingOf(s))
	}
	for _, s := range []api.Screen{odd(screenOf("aW-/X=1")), fresh(1, 1), odd(fresh(1, 3))} {
		if !model.Tame(s) || !screen.May(wild(s)) || model.Tame(wild(s)) {
			t.Errorf("%s", tellingOf(s))
		}
	}
}

// P19.2: the examples of the chapter.
func TestExamples(t *testing.T) {
	from, to := fresh(3, 1), of(t, 3, 1, "ab")
	m, _ := emulator.New(3, 1)
	b, e := Render(from, to)
	m.Write(b)
	if s := m.Screen(); e != api.OK || pictureOf(s.Grid) != "ab." || s.Row != 0 || s.Col != 2 {
		t.Errorf("%q, %d: %s", textOf(b), e, tellingOf(s))
	}
	s := odd(screenOf("aW-/X=1 1,2"))
	if b, e := Render(s, s); len(b) != 0 || e != api.OK {
		t.Errorf("Render of the same = %q, %d", textOf(b), e)
	}
	if b, e := Render(of(t, 3, 1, "abc"), to); len(b) != 0 || e != api.ErrArg {
		t.Errorf("Render of one that pends = %q, %d", textOf(b), e)
	}
}

// pair is two screens as texts, and how many bytes at most make the second one of the first one: which they are is free, but they are to be few.
type pair struct {
	from, to string
	most     int
}

func checkPairs(t *testing.T, l []pair) {
	t.Helper()
	for _, c := range l {
		from, to := screenOf(c.from), screenOf(c.to)
		if b := check(t, from, to); len(b) > c.most {
			t.Errorf("%s to %s takes %d bytes: %q", c.from, c.to, len(b), textOf(b))
		}
		// Where the first one, the second one and both have parts that are not rendered.
		check(t, odd(from), to)
		check(t, from, wild(to))
		check(t, odd(from), wild(to))
	}
}

// P19.2: screens that are the same.
func TestNothing(t *testing.T) {
	checkPairs(t, []pair{{"a", "a", 0}, {"abc/def", "abc/def", 0}, {"aW-/X=3 1,2 novisible", "aW-/X=3 1,2 novisible", 0}, {"~_,/... arrows paste", "~_,/... arrows paste", 0}, {"W- 0,1", "W- 0,1", 0}})
	// The second one parts from the first one in what stays alone.
	from := screenOf("abc/dW- 1,2 paste")
	for _, text := range []string{"= 1,2+", "= 0-0", "= nowrap", "= origin", "= insert", "= ground", "= 1,2+ insert nowrap under"} {
		to := become(from, text)
		if !screen.May(to) || len(check(t, from, to)) > 0 {
			t.Errorf("%s: what is not rendered takes bytes", text)
		}
	}
	to := wild(from)
	to.Title, to.Arrows, to.Paste = nil, false, true
	if b := check(t, from, to); len(b) > 0 {
		t.Errorf("%q", textOf(b))
	}
}

// P19.2: screens that part in one cell, in all of them, in the last ones.
func TestCells(t *testing.T) {
	checkPairs(t, []pair{
		// One cell: at the cursor, beside it, in the last column, in the last row.
		{"abc", "xbc 0,1", 1}, {"abc", "axc 0,2", 2}, {"abc", "abx 0,2", 6}, {"abc 0,2", "xbc 0,1", 2}, {"abc 0,2", "abx 0,2", 4},
		{"abc/def", "abc/dex 1,2", 9}, {"abc/def 1,2", "abc/dex 1,2", 4}, {"abc/def 1,2", "abc/dex 0,0", 4}, {"a", "b", 4}, {"a", ".", 4}, {"a/b", "a/c 1,0", 5}, {"a/b/c 2,0", "x/b/c 0,0", 7},
		// Every cell.
		{"abc/def", "def/abc 1,2", 9}, {"abc/def", "xyz/xyz 0,0", 9}, {"abc/def", "ABC/ABC 1,2", 22}, {"ABC/ABC", "abc/def 1,2", 9}, {"......", "abcdef 0,5", 9},
		// Blanks come to be: to the end of a row, of the screen, in the midst, few of them, of a ground.
		{"a..b..c..d", "..........", 3}, {"abcdefghix/abcdefghix", "ab......../.......... 1,0", 7}, {"abcdefghix/abcdefghix", "ab......../abcdefghix 0,2", 5}, {"abcdef", "ab..ef 0,4", 4}, {"abcd", "ab.. 0,0", 5},
		{"abcdefghix/abcdefghix", "ab________/__________ 0,0", 14}, {"abcdefghix/abcdefghix", "ab________/.......... 0,0", 21}, {"abcdefgh/abcdefgh", "......._/________", 20}, {"abcdefgh/abcdefgh", "_______./........", 20}, {"abcdefgh", "~~~~~~~~ 0,0", 16}, {"abcdefgh", ",,,,,,,, 0,0", 25},
		// What stands between is passed, or printed once more.
		{"aaaaa", "baaab 0,0", 6}, {"a....", "b.1.b 0,0", 8}, {"AAAAA", "BAAAB 0,0", 19}, {"aAAAa", "bAAAb 0,0", 7}, {"a1111a", "b1111b 0,0", 7}, {"aW-W-a", "bW-W-b 0,0", 7}, {"a/b/c/d", "x/b/c/y 0,0", 9}, {"aW-a.", "bW-b. 0,4", 5}, {"abcdefgh", "a...e..h 0,0", 8},
		{"abcd", "a... 0,1", 4}, {"a.b.c", "..... 0,0", 3}, {"abc", "... 0,0", 3}, {"ab", ".. 0,0", 3},
		// Rows go up.
		{"abc/def/ghi 2,2", "def/ghi/xyz 2,2", 10}, {"abc/def/ghi/xyz 2,2", "ghi/xyz/abc/... 2,2", 11}, {"abc/def/aW-/X=z", "aW-/X=z/W-a/... 3,0", 14}, {"abc/def", "def/... 1,0", 5},
		{"abc/___/ghi", "___/ghi/__c", 24}, {"abc/def/abc", "def/abc/def", 14}, {"abc/def/ghi", "ghi/abc/def", 14}, {"a/b", "b/b", 5},
	})
}

// P19.2: screens that part in marks alone.
func TestMarked(t *testing.T) {
	checkPairs(t, []pair{
		{"a", "1", 6}, {"a", "3", 12}, {"3", "1", 6}, {"1", "a", 4}, {"1", "3", 12}, {"W-", "M- 0,0", 6}, {"M-", "W- 0,0", 4}, {"aW-/W-a", "aM-/M-a 1,2", 12},
		{".", ",", 6}, {",", ".", 4}, {"abc", "ab3 0,2", 14}, {"ab3", "abc 0,2", 6}, {"111", "aaa 0,0", 4}, {"aaa/aaa", "1a1/31a", 40},
	})
}

// P19.2: wide characters where narrow ones stood and the other way round, whole and by halves, at a row's end, beside each other.
func TestWide(t *testing.T) {
	checkPairs(t, []pair{
		{"ab", "W- 0,0", 4}, {"W-", "ab 0,0", 3}, {"W-", "F- 0,0", 5}, {"W-", "X= 0,0", 17}, {"X=", "W- 0,0", 4}, {"aW-", "W-a 0,0", 5}, {"W-a", "aW- 0,0", 5}, {"aW-", "aX= 0,0", 18},
		{"W-W-", "aW-a 0,0", 6}, {"aW-a", "W-W- 0,0", 7}, {"W-F-", "aX=a 0,0", 25}, {"aX=a", "W-F- 0,0", 8}, {"W-W-W-", "aW-W-a 0,0", 9}, {"W-..", "..W- 0,0", 6}, {"..W-", "W-.. 0,0", 6},
		{"W-", ".. 0,0", 3}, {"..", "W- 0,0", 4}, {"X=", "__ 0,0", 14}, {"__", "X= 0,0", 17},
		{"aW-/W-a", "W-a/aW- 1,2", 13}, {"abW-/W-ab", "W-ab/abW- 0,1", 17}, {"W-W-/W-W-", "aW-a/aW-a 1,3", 15}, {"aW-a/aW-a", "W-W-/W-W- 1,0", 14}, {"X=X=", "AX=. 0,3", 30}, {".X=.", "_W-_ 0,0", 25},
		{"W-c 0,0", "W-c 0,1", 3}, {"W-c 0,1", "W-c 0,2", 3}, {"W-c 0,1", "W-d 0,1", 8}, {"aW- 0,2", "bW- 0,2", 6},
	})
}

// P19.2: screens that part in the cursor alone.
func TestCursor(t *testing.T) {
	checkPairs(t, []pair{
		{"abc 0,0", "abc 0,1", 1}, {"abc 0,0", "abc 0,2", 2}, {"abcdef 0,0", "abcdef 0,5", 4}, {"ABCDYZ 0,0", "ABCDYZ 0,1", 3}, {"abcdef 0,5", "abcdef 0,0", 1}, {"abcdef 0,5", "abcdef 0,4", 1}, {"abcdef 0,5", "abcdef 0,1", 4},
		{"a/b/c/d/e/f/g/h", "a/b/c/d/e/f/g/h 1,0", 1}, {"a/b/c/d/e/f/g/h", "a/b/c/d/e/f/g/h 7,0", 4}, {"a/b/c/d/e/f/g/h 7,0", "a/b/c/d/e/f/g/h 0,0", 3}, {"ab/cd/ef/gh 3,1", "ab/cd/ef/gh 2,1", 3}, {"ab/cd/ef/gh 3,1", "ab/cd/ef/gh 1,1", 4}, {"ab/cd/ef/gh 3,1", "ab/cd/ef/gh 0,0", 3}, {"ab/cd/ef/gh", "ab/cd/ef/gh 3,1", 6},
	})
	for _, picture := range []string{"aW-b/X=1./,.~_", "..../..../....", "a/b/c", "ab"} {
		from := screenOf(picture)
		places := len(from.Grid.Cells)
		for i := range places * places {
			to := from
			from.Row, from.Col = i/places/from.Grid.Cols, i/places%from.Grid.Cols
			to.Row, to.Col = i%places/from.Grid.Cols, i%places%from.Grid.Cols
			if b := check(t, odd(from), to); len(b) > 40 {
				t.Errorf("%q", textOf(b))
			}
		}
	}
}

// P19.2: screens that part in modes: each of them in each way.
func TestModes(t *testing.T) {
	with := func(modes int) api.Screen {
		s := screenOf("aW-/X=1 1,2")
		s.Visible, s.Arrows, s.Paste = modes&1 != 0, modes&2 != 0, modes&4 != 0
		return s
	}
	for i := range 8 {
		for j := range 8 {
			if b := check(t, with(i), with(j)); len(b) > 19 {
				t.Errorf("%q", textOf(b))
			}
			to := become(with(j), "a1b/W-~ 0,1 nowrap insert origin ground 1-1")
			check(t, with(i), to)
		}
	}
}

// runes is a list of so many numbers.
func runes(count int, c rune) []rune {
	return slices.Repeat([]rune{c}, count)
}

// titles is titles, and whether a terminal can be told them.
func titles() (l []struct {
	title []rune
	told  bool
}) {
	add := func(told bool, all ...[]rune) {
		for _, title := range all {
			l = append(l, struct {
				title []rune
				told  bool
			}{title, told})
		}
	}
	add(true, nil, []rune{}, []rune("a"), []rune("tea for two"), []rune("2;"), []rune("; 2;"), []rune(" "), []rune("\u00e9\u4e2d\u0301\U0001f600"), []rune{128}, []rune{0x9b, '3', '1', 'm'}, []rune{0x9c}, []rune{32, 126, 159, 160}, []rune{0xfffd}, []rune{0xd7ff, 0xe000, 0x10ffff})
	add(true, runes(253, 'x'), runes(254, 'y'), runes(254, 0x10ffff))
	add(false, runes(255, 'x'), runes(256, 'x'), []rune{0}, []rune{7}, []rune{'a', 7, 'b'}, []rune{10}, []rune{24}, []rune{26}, []rune{27}, []rune{27, '['}, []rune{31}, []rune{127}, []rune{'a', 127}, []rune{127, 'a'})
	add(false, []rune{0xd800}, []rune{0xdfff}, []rune{'a', 0xdb00, 'b'}, []rune{0x110000}, []rune{math.MaxInt32}, append(runes(253, 'x'), 31), append(runes(253, 'x'), 0xd800), append(runes(254, 'x'), 'y'))
	return l
}

// P19.1, P19.2: titles that a terminal can be told, and others, which are left as they are.
func TestTitles(t *testing.T) {
	for _, was := range titles() {
		from := titled(screenOf("aW-/X=1 1,2 novisible"), was.title)
		for _, c := range titles() {
			for _, to := range []api.Screen{titled(from, c.title), titled(wild(screenOf("abc/W-~ 0,2")), c.title)} {
				b := check(t, from, to)
				want := c.title
				if !c.told {
					want = was.title
				}
				after, _ := After(from, to)
				if shown, _, _ := played(from, b); !slices.Equal(shown.Title, want) || !slices.Equal(after.Title, want) {
					t.Errorf("of the title %q, %q: %q, %q", was.title, c.title, shown.Title, after.Title)
				}
				if !to.Alt && (len(b) == 0) != slices.Equal(want, was.title) {
					t.Errorf("the title %q behind %q: %q", c.title, was.title, textOf(b))
				}
			}
		}
	}
}
