package screen

import (
	"math"
	"slices"
	"testing"

	"wayfarer/api"
)

const (
	least    = math.MinInt
	greatest = math.MaxInt
)

// texts is a screen, what is printed to it, and what it becomes.
type texts struct{ from, text, want string }

func checkTexts(t *testing.T, l []texts) {
	t.Helper()
	for _, c := range l {
		s := screenOf(c.from)
		if !slowMay(s) {
			t.Fatalf("%s may not be", c.from)
		}
		checkDeeds(t, s, prints(c.text), become(s, c.want))
	}
}

// P16.2: characters of the width 1, by hand.
func TestPrintNarrow(t *testing.T) {
	checkTexts(t, []texts{
		// At each column.
		{"abc/def 0,0", "a", "Abc/def 0,1"}, {"abc/def 0,1", "a", "aAc/def 0,2"}, {"abc/def 0,2", "a", "abA/def 0,2+"}, {"abc/def 1,2", "a", "abc/deA 1,2+"}, {"a 0,0", "b", "B 0,0+"},
		// Over each half of a wide one: the other half is a blank of its own style.
		{"W-c 0,0", "a", "A.c 0,1"}, {"W-c 0,1", "a", ".Ac 0,2"}, {"X=c 0,0", "a", "A_c 0,1"}, {"cX= 0,2", "a", "c_A 0,2+"}, {"cM- 0,1", "a", "cA. 0,2"},
		// With Pend: to the next row; in the last one, the rows scroll.
		{"abc/def 0,2+", "a", "abc/Aef 1,1"}, {"abc/def 1,2+", "a", "def/A__ 1,1"}, {"abc/def 1,2+", "abcd", "ABC/D__ 1,1"}, {"abc/def 1,2+", "abcdyza", "DYZ/A__ 1,1"},
		{"a/b 0,0+", "a", "a/A 1,0+"}, {"a/b 1,0+", "a", "b/A 1,0+"}, {"a 0,0+", "ab", "B 0,0+"},
		{"abc/def 0,2+ plain", "a", "abc/aef 1,1"}, {"abc/def 1,2+ plain", "a", "def/a.. 1,1"},
		// Without Wrap: over the last column again.
		{"abc/def 0,2+ nowrap", "a", "abA/def 0,2+"}, {"abc/def 1,2+ nowrap", "ab", "abc/deB 1,2+"}, {"abc/def 0,2 nowrap", "a", "abA/def 0,2+"}, {"abc/def 0,1 nowrap", "abcd", "aAD/def 0,2+"},
		{"a/b 0,0+ nowrap", "a", "A/b 0,0+"}, {"aW- 0,2+ nowrap", "a", "a.A 0,2+"},
		// Ahead of Bottom, at it, above Top, below Bottom, in the last row below it.
		{"ab/cd/ef/gh 1,1+ 1-2", "a", "ab/cd/Af/gh 2,1"}, {"ab/cd/ef/gh 2,1+ 1-2", "a", "ab/ef/A_/gh 2,1"}, {"ab/cd/ef/gh 1,1+ 1-1", "a", "ab/A_/ef/gh 1,1"}, {"ab/cd/ef/gh 3,1+ 1-3", "a", "ab/ef/gh/A_ 3,1"},
		{"ab/cd/ef/gh 0,1+ 1-2", "a", "ab/Ad/ef/gh 1,1"}, {"ab/cd/ef/gh 2,1+ 0-1", "a", "ab/cd/ef/Ah 3,1"}, {"ab/cd/ef/gh 3,1+ 1-2", "a", "ab/cd/ef/Ah 3,1"}, {"ab/cd/ef/gh 3,1+ 1-2 origin", "a", "ab/cd/ef/Ah 3,1"},
	})
	s := screenOf("abc 0,0")
	want := become(s, "= 0,1")
	for _, c := range []rune{' ', 0xa0, 0xe9, 0x2ff, 0x10ffff} {
		// A blank that is printed has the whole style; what comes to be blank has its ground alone.
		want.Grid.Cells[0] = api.Cell{Char: c, Wide: 1, Style: ground()}
		got, e := Print(s, c)
		check(t, "Print", got, e, want, api.OK)
	}
}

// P16.2: characters of the width 2, by hand.
func TestPrintWide(t *testing.T) {
	checkTexts(t, []texts{
		{"abcd/efgh 0,0", "W", "X=cd/efgh 0,2"}, {"abcd/efgh 0,1", "W", "aX=d/efgh 0,3"}, {"abcd/efgh 0,2", "W", "abX=/efgh 0,3+"}, {"ab 0,0", "W", "X= 0,1+"}, {"abcd 0,0", "WW", "X=X= 0,3+"},
		// Over halves of others.
		{"W-W- 0,1", "W", ".X=. 0,3"}, {"W-cd 0,1", "W", ".X=d 0,3"}, {"aW-d 0,0", "W", "X=.d 0,2"}, {"W-W- 0,2", "W", "W-X= 0,3+"}, {"W-W- 0,0", "W", "X=W- 0,2"},
		// In the last column: to the next row, and the column stays as it was.
		{"abcd/efgh 0,3", "W", "abcd/X=gh 1,2"}, {"abcd/efgh 1,3", "W", "efgh/X=__ 1,2"}, {"aW-/def 0,2", "W", "aW-/X=f 1,2"}, {"ab/cd 0,1", "W", "ab/X= 1,1+"}, {"ab/cd 1,1", "W", "cd/X= 1,1+"}, {"ab 0,1", "W", "X= 0,1+"},
		// With Pend: one line is fed, not two.
		{"abcd/efgh 0,3+", "W", "abcd/X=gh 1,2"}, {"abcd/efgh 1,3+", "W", "efgh/X=__ 1,2"}, {"ab/cd 0,1+", "W", "ab/X= 1,1+"}, {"ab/cd/ef 0,1+", "WW", "ab/X=/X= 2,1+"},
		// Without Wrap: nothing in the last column, but Pend goes.
		{"abc/def 0,2 nowrap", "W", "abc/def 0,2"}, {"abc/def 0,2+ nowrap", "W", "abc/def 0,2"}, {"abc/def 0,1 nowrap", "W", "aX=/def 0,2+"}, {"abc/def 0,0 nowrap", "WW", "X=c/def 0,2"}, {"abc/def 0,2 nowrap insert", "W", "abc/def 0,2"},
		// On one column alone: nothing is printed, but with Pend and Wrap a line is fed.
		{"a/b 0,0", "W", "a/b 0,0"}, {"a/b 1,0", "W", "a/b 1,0"}, {"a/b 0,0+", "W", "a/b 1,0"}, {"a/b 1,0+", "W", "b/_ 1,0"}, {"a 0,0+", "W", "_ 0,0"}, {"a 0,0+", "Wa", "A 0,0+"},
		{"a/b 0,0 nowrap", "W", "a/b 0,0"}, {"a/b 0,0+ nowrap", "W", "a/b 0,0"}, {"a/b 0,0 insert", "W", "a/b 0,0"},
		// Ahead of Bottom, at it, above Top, below Bottom, in the last row below it.
		{"ab/cd/ef/gh 1,1 1-2", "W", "ab/cd/X=/gh 2,1+"}, {"ab/cd/ef/gh 2,1 1-2", "W", "ab/ef/X=/gh 2,1+"}, {"ab/cd/ef/gh 0,1 1-2", "W", "ab/X=/ef/gh 1,1+"}, {"ab/cd/ef/gh 2,1 0-1", "W", "ab/cd/ef/X= 3,1+"}, {"ab/cd/ef/gh 3,1 1-2", "W", "ab/cd/ef/X= 3,1+"},
	})
}

// P16.2: with Insert, by hand.
func TestPrintInsert(t *testing.T) {
	checkTexts(t, []texts{
		{"abcd/efgh 0,0 insert", "a", "Aabc/efgh 0,1"}, {"abcd/efgh 0,1 insert", "a", "aAbc/efgh 0,2"}, {"abcd/efgh 0,3 insert", "a", "abcA/efgh 0,3+"}, {"abcd/efgh 0,1 insert", "abc", "aABC/efgh 0,3+"},
		{"abcd/efgh 0,0 insert", "W", "X=ab/efgh 0,2"}, {"abcd/efgh 0,1 insert", "W", "aX=b/efgh 0,3"}, {"abcd/efgh 0,2 insert", "W", "abX=/efgh 0,3+"}, {"abcd/efgh 0,3 insert", "W", "abcd/X=ef 1,2"},
		// What is cut, at the cursor and at the row's end.
		{"aW-d 0,2 insert", "a", "a.A. 0,3"}, {"W-cd 0,1 insert", "W", ".X=. 0,3"}, {"aW- 0,0 insert", "a", "Aa. 0,1"}, {"abX= 0,0 insert", "a", "Aab_ 0,1"}, {"abX= 0,0 insert", "W", "X=ab 0,2"}, {"aW-d 0,1 insert", "a", "aAW- 0,2"},
		// With Pend.
		{"abc/def 0,2+ insert", "a", "abc/Ade 1,1"}, {"abc/def 1,2+ insert", "a", "def/A__ 1,1"}, {"abc/def 0,2+ insert nowrap", "a", "abA/def 0,2+"}, {"abc/def 0,2+ insert", "W", "abc/X=d 1,2"}, {"a/b 0,0 insert", "a", "A/b 0,0+"},
	})
}

// P16.2: marks, by hand.
func TestPrintMarks(t *testing.T) {
	checkTexts(t, []texts{
		{"abc 0,1", "\u0301", "1bc 0,1"}, {"bac 0,2", "\u0301", "b1c 0,2"}, {"abc 0,1", "\u0301\u0302", "2bc 0,1"}, {"abc/abc 1,1", "\u0301", "abc/1bc 1,1"}, {"abc 0,1 insert", "\u0301", "1bc 0,1"}, {"ab/ab/ab 2,1 0-1 origin", "\u0301", "ab/ab/1b 2,1"},
		// More of them than there is room for.
		{"abc 0,1", "\u0301\u0302\u0303", "3bc 0,1"}, {"abc 0,1", "\u0301\u0302\u0303\u0304", "3bc 0,1"}, {"3bc 0,1", "\u0301", "3bc 0,1"}, {"2bc 0,1", "\u0303\u0303", "3bc 0,1"},
		// At the column 0.
		{"abc 0,0", "\u0301", "abc 0,0"}, {"a 0,0", "\u0301", "a 0,0"}, {"abc/abc 1,0", "\u0301", "abc/abc 1,0"},
		// Behind a wide character, and in its midst.
		{"W-c 0,2", "\u0301", "M-c 0,2"}, {"W-c 0,1", "\u0301", "M-c 0,1"}, {"cX=d 0,3", "\u0301", "cN=d 0,3"}, {"cX=d 0,2", "\u0301", "cN=d 0,2"},
		// With Pend.
		{"bca 0,2+", "\u0301", "bc1 0,2+"}, {"bca 0,2+", "\u0301\u0302", "bc2 0,2+"}, {"bca 0,2+ nowrap", "\u0301", "bc1 0,2+"}, {"cW- 0,2+", "\u0301", "cM- 0,2+"}, {"bac 0,2", "\u0301", "b1c 0,2"}, {"cW- 0,2", "\u0301", "cM- 0,2"},
		{"a 0,0+", "\u0301", "1 0,0+"}, {"a 0,0+ nowrap", "\u0301", "1 0,0+"}, {"ba 0,1+", "\u0301\u0302\u0303\u0304", "b3 0,1+"},
		// The blank has a place for marks, too.
		{"a.c 0,1", "\u0301", "1.c 0,1"},
	})
	s := screenOf("... 0,1")
	want := become(s, "=")
	want.Grid.Cells[0].Marks[0] = 0xfe0f
	got, e := Print(s, 0xfe0f)
	check(t, "Print of a mark", got, e, want, api.OK)
}

// P16.2: of a character that has no width nothing changes.
func TestPrintNothing(t *testing.T) {
	for _, from := range []string{"abc/def 0,0", "abc/def 1,2", "abc/def 1,2+", "abc/def 1,2+ nowrap insert", "a 0,0+"} {
		for _, c := range []rune{math.MinInt32, -5, -1, 0, 7, 8, 10, 13, 27, 31, 127, 128, 141, 159, 0xd800, 0xdfff, 0x110000, math.MaxInt32} {
			checkDeed(t, from, printOf(c), "=")
		}
	}
}

// cases is a screen, what is done to it, and what it becomes.
type cases struct {
	from string
	do   deed
	want string
}

func checkCases(t *testing.T, l []cases) {
	t.Helper()
	for _, c := range l {
		checkDeed(t, c.from, c.do, c.want)
	}
}

// P16.3: Control by hand.
func TestControl(t *testing.T) {
	const twenty = "aaaaaaaaaaaaaaaaaaaa"
	checkCases(t, []cases{
		{"abc 0,2", controlOf(8), "= 0,1"}, {"abc 0,1", controlOf(8), "= 0,0"}, {"abc 0,0", controlOf(8), "= 0,0"}, {"abc/def 1,0", controlOf(8), "= 1,0"}, {"abc 0,2+", controlOf(8), "= 0,1"}, {"a 0,0+", controlOf(8), "= 0,0"}, {"aW- 0,2", controlOf(8), "= 0,1"},
		{twenty + " 0,0", controlOf(9), "= 0,8"}, {twenty + " 0,7", controlOf(9), "= 0,8"}, {twenty + " 0,8", controlOf(9), "= 0,16"}, {twenty + " 0,15", controlOf(9), "= 0,16"}, {twenty + " 0,16", controlOf(9), "= 0,19"}, {twenty + " 0,19", controlOf(9), "= 0,19"}, {twenty + " 0,19+", controlOf(9), "= 0,19"},
		{twenty + " 0,0 t", controlOf(9), "= 0,19"}, {twenty + " 0,3 t0,1,2,3", controlOf(9), "= 0,19"}, {"abcd 0,0 t0,2", controlOf(9), "= 0,2"}, {"abcd 0,2 t0,2", controlOf(9), "= 0,3"}, {"abcd 0,0 t0", controlOf(9), "= 0,3"}, {"abcd 0,2 t1,3", controlOf(9), "= 0,3"}, {"abcd 0,3 t3", controlOf(9), "= 0,3"}, {"a 0,0+ t0", controlOf(9), "= 0,0"}, {"abcd 0,0 t1,2,3", controlOf(9), "= 0,1"},
		{"abc/def 1,2", controlOf(13), "= 1,0"}, {"abc/def 0,0", controlOf(13), "= 0,0"}, {"abc/def 0,2+", controlOf(13), "= 0,0"}, {"a 0,0+", controlOf(13), "= 0,0"},
		{"ab/cd/ef 1,1", controlOf(141), "= 0,1"}, {"ab/cd/ef 2,0", controlOf(141), "= 1,0"}, {"ab/cd/ef 0,1", controlOf(141), "__/ab/cd 0,1"}, {"ab/cd/ef 0,1+", controlOf(141), "__/ab/cd 0,1"}, {"ab/cd 1,1+", controlOf(141), "= 0,1"}, {"ab/cd 0,1 plain", controlOf(141), "../ab 0,1"},
		{"ab/cd/ef/gh 1,0 1-2", controlOf(141), "ab/__/cd/gh 1,0"}, {"ab/cd/ef/gh 2,0 1-2", controlOf(141), "= 1,0"}, {"ab/cd/ef/gh 3,0 1-2", controlOf(141), "= 2,0"}, {"ab/cd/ef/gh 0,1+ 1-2", controlOf(141), "= 0,1"}, {"ab/cd/ef/gh 1,0 2-3", controlOf(141), "= 0,0"}, {"ab/cd/ef/gh 2,0 2-2", controlOf(141), "ab/cd/__/gh 2,0"},
	})
	for _, c := range []rune{10, 11, 12} {
		checkCases(t, []cases{
			{"ab/cd/ef 0,1", controlOf(c), "= 1,1"}, {"ab/cd/ef 1,0", controlOf(c), "= 2,0"}, {"ab/cd/ef 2,1", controlOf(c), "cd/ef/__ 2,1"}, {"ab/cd/ef 0,1+", controlOf(c), "= 1,1"}, {"ab/cd/ef 2,1+", controlOf(c), "cd/ef/__ 2,1"}, {"ab 0,0 plain", controlOf(c), ".. 0,0"},
			{"ab/cd/ef/gh 1,0 1-2", controlOf(c), "= 2,0"}, {"ab/cd/ef/gh 2,0 1-2", controlOf(c), "ab/ef/__/gh 2,0"}, {"ab/cd/ef/gh 3,1+ 1-2", controlOf(c), "= 3,1"}, {"ab/cd/ef/gh 0,0 1-2", controlOf(c), "= 1,0"}, {"ab/cd/ef/gh 2,0 0-1", controlOf(c), "= 3,0"}, {"ab/cd/ef/gh 1,0 1-1", controlOf(c), "ab/__/ef/gh 1,0"}, {"ab/cd/ef/gh 3,0 1-3", controlOf(c), "ab/ef/gh/__ 3,0"},
		})
	}
}

// P16.3: other characters change nothing.
func TestControlNothing(t *testing.T) {
	known := []rune{8, 9, 10, 11, 12, 13, 141}
	others := []rune{math.MinInt32, 1<<16 + 8, 1<<16 + 10, 1<<24 + 13, 1<<16 + 141, -1<<16 + 9, math.MaxInt32}
	for c := rune(-300); c <= 600; c++ {
		if !slices.Contains(known, c) {
			others = append(others, c)
		}
	}
	for _, c := range others {
		for _, from := range []string{"abc/def 0,1", "abc/def 1,2+", "abc/def/ghi 1,2+ 1-1"} {
			checkDeed(t, from, controlOf(c), "=")
		}
	}
}

// P16.4: Move by hand, in, above and below rows that scroll.
func TestMove(t *testing.T) {
	for _, c := range []struct{ row, down, want int }{
		{0, 0, 0}, {0, 1, 1}, {0, 2, 2}, {0, 3, 3}, {0, 4, 3}, {0, greatest, 3}, {0, -1, 0}, {0, least, 0},
		{1, 0, 1}, {1, 1, 2}, {1, 2, 3}, {1, 3, 3}, {1, greatest, 3}, {1, -1, 1}, {1, least, 1},
		{2, 0, 2}, {2, 1, 3}, {2, 2, 3}, {2, greatest, 3}, {2, -1, 1}, {2, -2, 1}, {2, least, 1},
		{3, 0, 3}, {3, 1, 3}, {3, greatest, 3}, {3, -1, 2}, {3, -2, 1}, {3, -3, 1}, {3, least, 1},
		{4, 0, 4}, {4, 1, 4}, {4, greatest, 4}, {4, -1, 3}, {4, -3, 1}, {4, -4, 1}, {4, least, 1}, {4, 1 << 32, 4}, {4, -1 << 32, 1}, {4, 1 << 16, 4}, {4, -1 << 16, 1},
	} {
		for _, origin := range []bool{false, true} {
			s := screenOf("ab/cd/ef/gh/ia 0,1+ 1-3")
			s.Row, s.Origin = c.row, origin
			want := become(s, "= 0,1")
			want.Row = c.want
			got, e := Move(s, c.down, 0)
			check(t, "Move of "+tellingOf(s), got, e, want, api.OK)
		}
	}
	for _, c := range []struct{ col, right, want int }{
		{0, 0, 0}, {0, 1, 1}, {0, 3, 3}, {0, 4, 3}, {0, greatest, 3}, {0, -1, 0}, {0, least, 0},
		{2, 0, 2}, {2, 1, 3}, {2, 2, 3}, {2, greatest, 3}, {2, -1, 1}, {2, -2, 0}, {2, -3, 0}, {2, least, 0},
		{3, 0, 3}, {3, 1, 3}, {3, greatest, 3}, {3, greatest - 1, 3}, {3, -1, 2}, {3, -3, 0}, {3, -4, 0}, {3, least, 0}, {3, 1 << 32, 3}, {3, -1 << 32, 0}, {3, 1 << 16, 3}, {3, -1 << 16, 0},
	} {
		s := screenOf("abcd/efgh 1,0")
		s.Col, s.Pend = c.col, c.col == 3
		want := become(s, "= 1,0")
		want.Col = c.want
		got, e := Move(s, 0, c.right)
		check(t, "Move of "+tellingOf(s), got, e, want, api.OK)
	}
	checkCases(t, []cases{
		{"abc/def/ghi 1,1", moveOf(1, -1), "= 2,0"}, {"abc/def/ghi 1,1", moveOf(-1, 1), "= 0,2"}, {"abc/def/ghi 1,1", moveOf(greatest, least), "= 2,0"}, {"abc/def/ghi 1,1", moveOf(least, greatest), "= 0,2"}, {"abc/def/ghi 2,2+", moveOf(0, 0), "= 2,2"}, {"a 0,0+", moveOf(greatest, greatest), "= 0,0"},
	})
}

// P16.4: Place by hand, with Origin and without.
func TestPlace(t *testing.T) {
	for _, c := range []struct{ row, without, with int }{
		{least, 0, 1}, {-1 << 32, 0, 1}, {-1, 0, 1}, {0, 0, 1}, {1, 1, 2}, {2, 2, 3}, {3, 3, 3}, {4, 4, 3}, {5, 4, 3}, {512, 4, 3}, {1 << 16, 4, 3}, {1 << 32, 4, 3}, {greatest - 1, 4, 3}, {greatest, 4, 3},
	} {
		for _, from := range []string{"0,0", "2,1", "4,1+"} {
			for _, origin := range []bool{false, true} {
				s := screenOf("ab/cd/ef/gh/ia " + from + " 1-3")
				s.Origin = origin
				want := become(s, "= 0,1")
				want.Row = c.without
				if origin {
					want.Row = c.with
				}
				got, e := Place(s, c.row, 1)
				check(t, "Place of "+tellingOf(s), got, e, want, api.OK)
			}
		}
	}
	for _, c := range []struct{ col, want int }{{least, 0}, {-1 << 32, 0}, {-1, 0}, {0, 0}, {1, 1}, {3, 3}, {4, 3}, {512, 3}, {1 << 16, 3}, {1 << 32, 3}, {greatest, 3}} {
		for _, from := range []string{"0,0", "1,3+", "2,2 1-1 origin"} {
			s := screenOf("abcd/efgh/iabc " + from)
			want := become(s, "= 1,0")
			want.Col = c.want
			row := 1
			if s.Origin {
				row = 0
			}
			got, e := Place(s, row, c.col)
			check(t, "Place of "+tellingOf(s), got, e, want, api.OK)
		}
	}
}

// P16.5: Erase by hand.
func TestErase(t *testing.T) {
	checkCases(t, []cases{
		{"abc/def/ghi 1,1", eraseOf(false, 0), "abc/d__/ghi 1,1"}, {"abc/def/ghi 1,1", eraseOf(false, 1), "abc/__f/ghi 1,1"}, {"abc/def/ghi 1,1", eraseOf(false, 2), "abc/___/ghi 1,1"},
		{"abc/def/ghi 1,1", eraseOf(true, 0), "abc/d__/___ 1,1"}, {"abc/def/ghi 1,1", eraseOf(true, 1), "___/__f/ghi 1,1"}, {"abc/def/ghi 1,1", eraseOf(true, 2), "___/___/___ 1,1"},
		// At the first place and at the last one.
		{"abc/def 0,0", eraseOf(false, 0), "___/def 0,0"}, {"abc/def 0,0", eraseOf(false, 1), "_bc/def 0,0"}, {"abc/def 0,0", eraseOf(true, 0), "___/___ 0,0"}, {"abc/def 0,0", eraseOf(true, 1), "_bc/def 0,0"},
		{"abc/def 1,2+", eraseOf(false, 0), "abc/de_ 1,2"}, {"abc/def 1,2+", eraseOf(false, 1), "abc/___ 1,2"}, {"abc/def 1,2+", eraseOf(false, 2), "abc/___ 1,2"}, {"abc/def 1,2+", eraseOf(true, 0), "abc/de_ 1,2"}, {"abc/def 1,2+", eraseOf(true, 1), "___/___ 1,2"}, {"abc/def 1,2", eraseOf(true, 2), "___/___ 1,2"}, {"a 0,0+", eraseOf(true, 1), "_ 0,0"},
		// The rows that scroll are of no weight; blanks are of the screen's style.
		{"abc/def/ghi 1,1 1-1 origin", eraseOf(true, 0), "abc/d__/___ 1,1"}, {"abc/def/ghi 1,1 0-0 origin insert nowrap", eraseOf(true, 1), "___/__f/ghi 1,1"}, {"abc/def 1,1 plain", eraseOf(true, 1), ".../..f 1,1"}, {"abc/def 1,1 under", eraseOf(true, 2), ".../... 1,1"},
		// Through wide characters: what is left of one is a blank of its own style.
		{"aW-d 0,2", eraseOf(false, 0), "a.__ 0,2"}, {"aW-d 0,1", eraseOf(false, 0), "a___ 0,1"}, {"aW-d 0,1", eraseOf(false, 1), "__.d 0,1"}, {"aW-d 0,2", eraseOf(false, 1), "___d 0,2"}, {"aX=d 0,2 plain", eraseOf(false, 0), "a_.. 0,2"}, {"aX=d 0,1 plain", eraseOf(false, 1), ".._d 0,1"},
		{"aW-d/bX=d 0,2", eraseOf(true, 0), "a.__/____ 0,2"}, {"W-X=/aW-d 1,1", eraseOf(true, 1), "____/__.d 1,1"},
	})
	// Others erase nothing, but Pend goes.
	for _, kind := range []int{least, -1 << 32, -2, -1, 3, 4, 22, 256, 257, 258, 1 << 16, 1 << 32, 1<<32 + 1, 1<<32 + 2, greatest} {
		for _, lines := range []bool{false, true} {
			checkDeed(t, "abc/def 0,1", eraseOf(lines, kind), "=")
			checkDeed(t, "abc/def 0,2+", eraseOf(lines, kind), "= 0,2")
		}
	}
}

// P16.5: Lines by hand.
func TestLines(t *testing.T) {
	const four = "ab/cd/ef/gh "
	checkCases(t, []cases{
		{four + "1,1", linesOf(1), "ab/__/cd/ef 1,0"}, {four + "1,1", linesOf(2), "ab/__/__/cd 1,0"}, {four + "1,1", linesOf(3), "ab/__/__/__ 1,0"}, {four + "1,1", linesOf(4), "ab/__/__/__ 1,0"}, {four + "1,1", linesOf(greatest), "ab/__/__/__ 1,0"}, {four + "1,1", linesOf(1 << 16), "ab/__/__/__ 1,0"}, {four + "1,1", linesOf(1 << 32), "ab/__/__/__ 1,0"},
		{four + "1,1", linesOf(-1), "ab/ef/gh/__ 1,0"}, {four + "1,1", linesOf(-2), "ab/gh/__/__ 1,0"}, {four + "1,1", linesOf(-3), "ab/__/__/__ 1,0"}, {four + "1,1", linesOf(least), "ab/__/__/__ 1,0"}, {four + "1,1", linesOf(least + 1), "ab/__/__/__ 1,0"}, {four + "1,1", linesOf(-1 << 16), "ab/__/__/__ 1,0"}, {four + "1,1", linesOf(-1 << 32), "ab/__/__/__ 1,0"},
		{four + "1,1", linesOf(0), "= 1,0"}, {four + "1,1+", linesOf(0), "= 1,0"}, {four + "1,1+", linesOf(1), "ab/__/cd/ef 1,0"}, {four + "0,0", linesOf(1), "__/ab/cd/ef 0,0"}, {four + "3,1", linesOf(1), "ab/cd/ef/__ 3,0"}, {four + "3,1", linesOf(-1), "ab/cd/ef/__ 3,0"}, {four + "0,1 plain", linesOf(-1), "cd/ef/gh/.. 0,0"},
		// In the rows that scroll, above and below them.
		{four + "1,1 1-2", linesOf(1), "ab/__/cd/gh 1,0"}, {four + "2,1 1-2", linesOf(1), "ab/cd/__/gh 2,0"}, {four + "1,1 1-2", linesOf(-1), "ab/ef/__/gh 1,0"}, {four + "1,1 1-2", linesOf(greatest), "ab/__/__/gh 1,0"}, {four + "1,1 1-1", linesOf(-1), "ab/__/ef/gh 1,0"}, {four + "1,1 1-2 origin", linesOf(0), "= 1,0"},
		{four + "0,1 1-2", linesOf(1), "="}, {four + "0,1+ 1-2", linesOf(1), "="}, {four + "0,1+ 1-2", linesOf(0), "="}, {four + "3,1 1-2", linesOf(-1), "="}, {four + "3,1+ 1-2", linesOf(-1), "="}, {four + "3,1+ 1-2", linesOf(least), "="}, {four + "3,1 0-2", linesOf(1), "="}, {four + "0,1 1-3", linesOf(1), "="},
	})
}

// P16.5: Chars, Wipe and Scroll by hand.
func TestCharsWipeScroll(t *testing.T) {
	const four = "ab/cd/ef/gh "
	checkCases(t, []cases{
		{"abcd 0,1", charsOf(0), "="}, {"abcd 0,1", charsOf(1), "a_bc 0,1"}, {"abcd 0,1", charsOf(2), "a__b 0,1"}, {"abcd 0,1", charsOf(3), "a___ 0,1"}, {"abcd 0,1", charsOf(4), "a___ 0,1"}, {"abcd 0,1", charsOf(greatest), "a___ 0,1"}, {"abcd 0,1", charsOf(1 << 32), "a___ 0,1"},
		{"abcd 0,1", charsOf(-1), "acd_ 0,1"}, {"abcd 0,1", charsOf(-2), "ad__ 0,1"}, {"abcd 0,1", charsOf(-3), "a___ 0,1"}, {"abcd 0,1", charsOf(least), "a___ 0,1"}, {"abcd 0,1", charsOf(-1 << 32), "a___ 0,1"}, {"abcd/efgh/iabc 1,0 0-0", charsOf(1), "abcd/_efg/iabc 1,0"}, {"abcd 0,0 plain", charsOf(-1), "bcd. 0,0"},
		{"aW-d 0,2", charsOf(1), "a._. 0,2"}, {"aW-d 0,2", charsOf(-1), "a.d_ 0,2"}, {"aW-d 0,1", charsOf(1), "a_W- 0,1"}, {"aW-d 0,1", charsOf(-1), "a.d_ 0,1"}, {"aW-d 0,0", charsOf(2), "__a. 0,0"}, {"abcd 0,3+", charsOf(1), "abc_ 0,3"}, {"abcd 0,3+", charsOf(0), "= 0,3"}, {"abcd 0,3+", charsOf(-1), "abc_ 0,3"},

		{"abcd 0,1", wipeOf(1), "a_cd 0,1"}, {"abcd 0,1", wipeOf(2), "a__d 0,1"}, {"abcd 0,1", wipeOf(3), "a___ 0,1"}, {"abcd 0,1", wipeOf(4), "a___ 0,1"}, {"abcd 0,1", wipeOf(greatest), "a___ 0,1"}, {"abcd 0,1", wipeOf(1 << 16), "a___ 0,1"}, {"abcd 0,1", wipeOf(1 << 32), "a___ 0,1"},
		{"abcd 0,1", wipeOf(0), "="}, {"abcd 0,1", wipeOf(-1), "="}, {"abcd 0,1", wipeOf(least), "="}, {"abcd 0,1", wipeOf(-1 << 32), "="}, {"abcd/efgh/iabc 1,0 0-0", wipeOf(2), "abcd/__gh/iabc 1,0"}, {"abcd 0,0 plain", wipeOf(1), ".bcd 0,0"},
		{"aW-d 0,2", wipeOf(1), "a._d 0,2"}, {"aW-d 0,1", wipeOf(1), "a_.d 0,1"}, {"aW-d 0,1", wipeOf(2), "a__d 0,1"}, {"aW-d 0,0", wipeOf(2), "__.d 0,0"}, {"abcd 0,3+", wipeOf(1), "abc_ 0,3"}, {"abcd 0,3+", wipeOf(0), "= 0,3"}, {"abcd 0,3+", wipeOf(least), "= 0,3"}, {"abcd 0,3+", wipeOf(greatest), "abc_ 0,3"},

		{four + "3,1", scrollOf(0), "="}, {four + "3,1", scrollOf(1), "cd/ef/gh/__ 3,1"}, {four + "3,1", scrollOf(-1), "__/ab/cd/ef 3,1"}, {four + "1,0", scrollOf(3), "gh/__/__/__ 1,0"}, {four + "1,0", scrollOf(4), "__/__/__/__ 1,0"}, {four + "1,0", scrollOf(-3), "__/__/__/ab 1,0"}, {four + "0,0", scrollOf(greatest), "__/__/__/__ 0,0"}, {four + "0,0", scrollOf(least), "__/__/__/__ 0,0"},
		{four + "1,1 1-2", scrollOf(1), "ab/ef/__/gh 1,1"}, {four + "3,1 1-2", scrollOf(1), "ab/ef/__/gh 3,1"}, {four + "0,1 1-2", scrollOf(-1), "ab/__/cd/gh 0,1"}, {four + "0,1 1-2 origin", scrollOf(2), "ab/__/__/gh 0,1"}, {four + "2,1 1-2", scrollOf(greatest), "ab/__/__/gh 2,1"}, {four + "2,1 1-2", scrollOf(least), "ab/__/__/gh 2,1"}, {four + "2,1 1-1", scrollOf(-1), "ab/__/ef/gh 2,1"}, {four + "2,1 0-1 plain", scrollOf(1), "cd/../ef/gh 2,1"},
		{four + "3,1+", scrollOf(0), "= 3,1"}, {four + "3,1+", scrollOf(1), "cd/ef/gh/__ 3,1"}, {four + "3,1+ 0-1", scrollOf(-1), "__/ab/ef/gh 3,1"},
	})
}

// P16.6: Region by hand.
func TestRegion(t *testing.T) {
	const four = "ab/cd/ef/gh "
	checkCases(t, []cases{
		{four + "2,1+", regionOf(0, 3), "= 0,0 0-3"}, {four + "2,1+", regionOf(1, 2), "= 0,0 1-2"}, {four + "2,1", regionOf(2, 3), "= 0,0 2-3"}, {four + "2,1", regionOf(0, 1), "= 0,0 0-1"}, {four + "2,1 1-2", regionOf(0, 3), "= 0,0 0-3"}, {four + "2,1 1-2", regionOf(1, 2), "= 0,0 1-2"}, {four + "2,1+ 1-1", regionOf(1, 3), "= 0,0 1-3"},
		{four + "2,1+ origin", regionOf(1, 2), "= 1,0 1-2"}, {four + "0,1 1-2 origin", regionOf(2, 3), "= 2,0 2-3"}, {four + "3,1 1-2 origin", regionOf(0, 1), "= 0,0 0-1"},
	})
	for _, c := range [][2]int{{0, 0}, {1, 1}, {2, 2}, {3, 3}, {2, 1}, {1, 0}, {3, 0}, {-1, 2}, {-1, -1}, {-2, -1}, {-1, 0}, {0, -1}, {0, 4}, {3, 4}, {4, 4}, {4, 5}, {5, 4}, {0, 512}, {0, 1 << 32}, {0, 1<<32 + 1}, {-1 << 32, 2}, {1 << 32, 2}, {least, 1}, {0, greatest}, {least, greatest}, {greatest, least}, {least, least}, {greatest, greatest}} {
		for _, from := range []string{"2,1", "2,1+", "2,1+ 1-2", "2,1+ 1-2 origin", "0,0 2-2 origin"} {
			checkDeed(t, four+from, regionOf(c[0], c[1]), "=")
		}
	}
	checkDeed(t, "ab 0,1+", regionOf(0, 0), "=")
	checkDeed(t, "ab 0,1+", regionOf(0, 1), "=")
}

// P16.6: Keep by hand, there and back; of all that is kept, Pend and Origin too.
func TestKeep(t *testing.T) {
	for _, from := range []string{"abc/def 0,1", "abc/def 1,2+", "abc/def 1,2", "abc/def 0,0 origin", "abc/def 1,2+ 0-0 origin plain", "abc/def 1,0 1-1 under origin insert nowrap"} {
		s := screenOf(from)
		kept := apart(s)
		kept.Saved = api.Saved{Row: s.Row, Col: s.Col, Pend: s.Pend, Origin: s.Origin, Style: s.Style}
		checkDeeds(t, s, []deed{keepOf(false)}, kept)
		checkDeeds(t, kept, []deed{keepOf(false)}, kept)
		checkDeeds(t, kept, []deed{keepOf(true)}, kept)
		// What was kept ahead of it, which screenOf has.
		back := become(s, "= 1,2+ origin under")
		checkDeeds(t, s, []deed{keepOf(true)}, back)
		checkDeeds(t, s, []deed{keepOf(true), keepOf(true)}, back)
		// With all of it changed between.
		other := become(kept, "yyy/zzz 0,2 noorigin")
		other.Style = api.Style{Fg: 200, Bg: 7, Struck: true}
		want := become(kept, "yyy/zzz")
		checkDeeds(t, other, []deed{keepOf(true)}, want)
	}
}

// P16.6: what is kept stays while rows, modes and the cursor change.
func TestKeepAndOthers(t *testing.T) {
	s := screenOf("abc/def/ghi 1,2+")
	want := become(s, "= 1,2+ 0-1")
	want.Saved = api.Saved{Row: 1, Col: 2, Pend: true, Style: ground()}
	checkDeeds(t, s, []deed{keepOf(false), regionOf(0, 1), modeOf(true, 6, true), placeOf(9, 9), keepOf(true)}, want)
}

// P16.7: each mode by hand, on and off, twice the same way.
func TestMode(t *testing.T) {
	for _, c := range []struct {
		private bool
		n       int
		of      func(s *api.Screen) *bool
	}{
		{false, 4, func(s *api.Screen) *bool { return &s.Insert }},
		{true, 1, func(s *api.Screen) *bool { return &s.Arrows }},
		{true, 7, func(s *api.Screen) *bool { return &s.Wrap }},
		{true, 25, func(s *api.Screen) *bool { return &s.Visible }},
		{true, 2004, func(s *api.Screen) *bool { return &s.Paste }},
	} {
		for _, from := range []string{"abc/def 0,1", "abc/def 1,2+", "abc/def 1,2+ 0-0 origin insert nowrap"} {
			for _, was := range []bool{false, true} {
				for _, on := range []bool{false, true} {
					s := screenOf(from)
					*c.of(&s) = was
					want := apart(s)
					*c.of(&want) = on
					checkDeeds(t, s, []deed{modeOf(c.private, c.n, on)}, want)
					checkDeeds(t, s, []deed{modeOf(c.private, c.n, on), modeOf(c.private, c.n, on)}, want)
				}
			}
		}
	}
	// Origin leads to its first place, whether it was so already or not.
	checkCases(t, []cases{
		{"abc/def/ghi 2,2+ 1-2", modeOf(true, 6, true), "= 1,0 origin"}, {"abc/def/ghi 2,2+ 1-2", modeOf(true, 6, false), "= 0,0"}, {"abc/def/ghi 2,2+ 1-2 origin", modeOf(true, 6, false), "= 0,0 noorigin"}, {"abc/def/ghi 2,2+ 1-2 origin", modeOf(true, 6, true), "= 1,0"}, {"abc/def/ghi 0,1", modeOf(true, 6, true), "= 0,0 origin"}, {"abc/def/ghi 0,1 2-2", modeOf(true, 6, true), "= 2,0 origin"}, {"a 0,0+", modeOf(true, 6, false), "= 0,0"},
	})
}

// P16.7: all other numbers change nothing, private or not.
func TestModeNothing(t *testing.T) {
	private := []int{1, 6, 7, 25, 47, 1047, 1049, 2004}
	numbers := []int{least, -1 << 32, 1<<16 + 4, 1<<32 + 1, 1<<32 + 4, 1<<32 + 6, 1<<32 + 7, 1<<32 + 25, 1<<32 + 47, 1<<16 + 1049, 1<<16 + 2004, greatest}
	for n := -60; n <= 2100; n++ {
		numbers = append(numbers, n)
	}
	alt := screenOf("abc/def 1,2+ 0-0")
	alt.Alt, alt.Main = true, gridOf("ghi/X=.")
	for _, s := range []api.Screen{screenOf("abc/def 1,2+ 0-0 insert"), alt} {
		for _, n := range numbers {
			for _, on := range []bool{false, true} {
				if n != 4 {
					checkDeeds(t, s, []deed{modeOf(false, n, on)}, s)
				}
				if !slices.Contains(private, n) {
					checkDeeds(t, s, []deed{modeOf(true, n, on)}, s)
				}
			}
		}
	}
}

// P16.7: 47 and 1047 by hand.
func TestAlt(t *testing.T) {
	main := screenOf("abc/W-d 1,2+ 0-0")
	alt := become(main, "___/___")
	alt.Alt, alt.Main = true, main.Grid
	drawn := become(alt, "___/A__ 1,1")
	for _, n := range []int{47, 1047} {
		on, off := modeOf(true, n, true), modeOf(true, n, false)
		checkDeeds(t, main, []deed{on}, alt)
		checkDeeds(t, main, []deed{on, on}, alt)
		checkDeeds(t, main, []deed{off}, main)
		checkDeeds(t, main, []deed{on, off}, main)
		checkDeeds(t, main, []deed{on, off, off}, main)
		checkDeeds(t, main, []deed{on, off, on}, alt)
		checkDeeds(t, alt, []deed{controlOf(13), printOf('a')}, drawn)
		checkDeeds(t, drawn, []deed{on}, drawn)
		checkDeeds(t, drawn, []deed{off}, become(main, "= 1,1"))
		// What was drawn on the other one is gone.
		checkDeeds(t, drawn, []deed{off, on}, become(alt, "= 1,1"))
		// The blanks are of the style of the time.
		checkDeeds(t, become(main, "= plain"), []deed{on}, become(alt, ".../... plain"))
	}
	checkDeeds(t, main, []deed{modeOf(true, 47, true), modeOf(true, 1047, true)}, alt)
	checkDeeds(t, main, []deed{modeOf(true, 47, true), modeOf(true, 1047, false)}, main)
	checkDeeds(t, main, []deed{modeOf(true, 1047, true), modeOf(true, 47, false)}, main)
}

// P16.7: 1049 by hand, and mixed with the others.
func TestAltKept(t *testing.T) {
	on, off := modeOf(true, 1049, true), modeOf(true, 1049, false)
	main := screenOf("abc/W-d 1,2+ 0-0 origin")
	kept := apart(main)
	kept.Saved = api.Saved{Row: 1, Col: 2, Pend: true, Origin: true, Style: ground()}
	alt := become(kept, "___/___")
	alt.Alt, alt.Main = true, main.Grid
	checkDeeds(t, main, []deed{on}, alt)
	checkDeeds(t, main, []deed{on, off}, kept)
	checkDeeds(t, main, []deed{off}, main)
	// All that is kept comes back.
	moved := become(alt, "yyy/zzz 0,0 noorigin plain")
	checkDeeds(t, moved, []deed{off}, kept)
	checkDeeds(t, moved, []deed{off, off}, kept)
	checkDeeds(t, moved, []deed{off, moveOf(0, -1), off}, become(kept, "= 1,1"))
	// On where it is on: the cursor alone is kept.
	again := apart(moved)
	again.Saved = api.Saved{Style: plain()}
	checkDeeds(t, moved, []deed{on}, again)
	checkDeeds(t, moved, []deed{on, off}, become(withSaved(main, again.Saved), "= 0,0 noorigin plain"))
	// Off by the others: what is kept does not come back.
	for _, n := range []int{47, 1047} {
		checkDeeds(t, moved, []deed{modeOf(true, n, false)}, become(kept, "= 0,0 noorigin plain"))
		checkDeeds(t, moved, []deed{modeOf(true, n, false), off}, become(kept, "= 0,0 noorigin plain"))
		// On by the others: nothing is kept, but off by 1049 brings back what was kept ahead.
		checkDeeds(t, main, []deed{modeOf(true, n, true), off}, become(main, "= 1,2+ origin under"))
		checkDeeds(t, main, []deed{on, modeOf(true, n, true)}, alt)
	}
}

func withSaved(s api.Screen, kept api.Saved) api.Screen {
	s.Saved = kept
	return s
}

// P16.8: Tab by hand.
func TestTab(t *testing.T) {
	checkCases(t, []cases{
		{"abcd 0,0 t", tabOf(0), "= t0"}, {"abcd 0,0 t1,2", tabOf(0), "= t0,1,2"}, {"abcd 0,2 t1,3", tabOf(0), "= t1,2,3"}, {"abcd 0,3 t1,2", tabOf(0), "= t1,2,3"}, {"abcd 0,3+ t", tabOf(0), "= t3"}, {"abcd 0,2 t2", tabOf(0), "="}, {"abcd 0,0 t0", tabOf(0), "="}, {"abcd 0,3+ t0,3", tabOf(0), "="},
		{"abcd 0,0 t0", tabOf(1), "= t"}, {"abcd 0,0 t0,1", tabOf(1), "= t1"}, {"abcd 0,2 t1,2,3", tabOf(1), "= t1,3"}, {"abcd 0,3+ t1,3", tabOf(1), "= t1"}, {"abcd 0,2 t1,3", tabOf(1), "="}, {"abcd 0,0 t", tabOf(1), "="}, {"abcd 0,0 t1", tabOf(1), "="}, {"abcd 0,3+ t0,2", tabOf(1), "="},
		{"abcd 0,0 t", tabOf(2), "="}, {"abcd 0,0 t0,1,2,3", tabOf(2), "= t"}, {"abcd 0,3+ t2", tabOf(2), "= t"},
	})
	for _, kind := range []int{least, -1, 3, 4, 5, 256, 257, 258, 1 << 16, 1 << 32, 1<<32 + 1, 1<<32 + 2, greatest} {
		checkDeed(t, "abcd 0,1 t1,3", tabOf(kind), "=")
		checkDeed(t, "abcd 0,2 t1,3", tabOf(kind), "=")
		checkDeed(t, "abcd 0,3+ t1,3", tabOf(kind), "=")
	}
	s := screenOf("abcd 0,1 t3")
	checkDeeds(t, s, []deed{tabOf(0), tabOf(0)}, become(s, "= t1,3"))
	checkDeeds(t, s, []deed{tabOf(0), tabOf(1), tabOf(1)}, s)
	checkDeeds(t, s, []deed{tabOf(0), controlOf(13), tabOf(0), controlOf(9), controlOf(9)}, become(s, "= 0,3 t0,1,3"))
}

// P16.8: Resize by hand.
func TestResize(t *testing.T) {
	s := screenOf("abcd/eW-h/iabc 2,3+ 1-1 t1,3 insert nowrap origin")
	for _, c := range []struct {
		cols, rows         int
		want, main         string
		savedRow, savedCol int
	}{
		{4, 3, "abcd/eW-h/iabc 2,3 0-2 t", "ABCD/.X=A/DCBA", 2, 3},
		{3, 3, "abc/eW-/iab 2,2 0-2 t", "ABC/.X=/DCB", 2, 2},
		{2, 2, "ab/e. 1,1 0-1 t", "AB/._", 1, 1},
		{1, 1, "a 0,0 0-0 t", "A", 0, 0},
		{4, 1, "abcd 0,3 0-0 t", "ABCD", 0, 3},
		{1, 3, "a/e/i 2,0 0-2 t", "A/./D", 2, 0},
		{6, 4, "abcd__/eW-h__/iabc__/______ 2,3 0-3 t", "ABCD__/.X=A__/DCBA__/______", 2, 3},
		{9, 1, "abcd_____ 0,3 0-0 t8", "ABCD_____", 0, 3},
		{17, 2, "abcd_____________/eW-h_____________ 1,3 0-1 t8,16", "ABCD_____________/.X=A_____________", 1, 3},
	} {
		want := become(s, c.want)
		want.Saved.Row, want.Saved.Col, want.Saved.Pend = c.savedRow, c.savedCol, false
		checkDeeds(t, s, []deed{resizeOf(c.cols, c.rows)}, want)
		// With the other grid shown both are resized.
		alt := apart(s)
		alt.Alt, alt.Main = true, gridOf("ABCD/.X=A/DCBA")
		want.Alt, want.Main = true, gridOf(c.main)
		checkDeeds(t, alt, []deed{resizeOf(c.cols, c.rows)}, want)
	}
	// A cursor that is not beyond stays, and so does one that is kept.
	s = screenOf("abcd/efgh/iabc 0,1")
	s.Saved.Row, s.Saved.Col, s.Saved.Pend = 1, 0, false
	checkDeeds(t, s, []deed{resizeOf(2, 2)}, become(s, "ab/ef 0,1 0-1"))
	for _, c := range [][2]int{{0, 1}, {1, 0}, {0, 0}, {-1, 3}, {4, -1}, {-4, -3}, {513, 1}, {1, 513}, {513, 513}, {1 << 32, 1 << 32}, {1<<32 + 1, 1}, {least, least}, {greatest, greatest}, {least, 3}, {4, greatest}} {
		got, e := Resize(s, c[0], c[1])
		check(t, "Resize", got, e, api.Screen{}, api.ErrArg)
	}
}

// P16.2 to P16.8: what becomes of Pend behind each deed, by hand.
func TestPend(t *testing.T) {
	goes := []deed{
		controlOf(8), controlOf(9), controlOf(10), controlOf(11), controlOf(12), controlOf(13), controlOf(141),
		moveOf(0, 0), moveOf(1, 0), moveOf(0, 1), placeOf(1, 2), placeOf(0, 0),
		eraseOf(false, 0), eraseOf(false, 1), eraseOf(true, 2), eraseOf(false, 3), eraseOf(true, -1),
		linesOf(1), linesOf(0), linesOf(-1), charsOf(0), charsOf(1), wipeOf(0), wipeOf(1), wipeOf(-1), scrollOf(0), scrollOf(1),
		regionOf(0, 1), modeOf(true, 6, true), modeOf(true, 6, false), resizeOf(3, 2), resizeOf(1, 1), resizeOf(9, 9),
		printOf('a'), printOf(wide),
	}
	stays := []deed{
		printOf(7), printOf(-1), printOf(0x301), controlOf(0), controlOf(7), controlOf(14), controlOf(140),
		regionOf(1, 1), regionOf(1, 0), regionOf(0, 2), keepOf(false), keepOf(true), tabOf(0), tabOf(1), tabOf(2), tabOf(3),
		modeOf(false, 4, true), modeOf(true, 1, true), modeOf(true, 7, false), modeOf(true, 25, false), modeOf(true, 2004, true), modeOf(true, 47, true), modeOf(true, 1047, true), modeOf(true, 1049, true), modeOf(true, 47, false), modeOf(true, 1049, false), modeOf(false, 6, true), modeOf(true, 5, true),
	}
	for want, deeds := range map[bool][]deed{false: goes, true: stays} {
		for _, d := range deeds {
			got, e := d.do(screenOf("abc/def 1,2+"))
			if e != api.OK || got.Pend != want {
				t.Errorf("behind %s Pend is %v, %d", d, got.Pend, e)
			}
			// None of them but what brings back a kept one makes it true.
			got, e = d.do(screenOf("abcd/defa 1,1"))
			if wants := d == keepOf(true); e != api.OK || got.Pend != wants {
				t.Errorf("behind %s Pend has come to be %v, %d", d, got.Pend, e)
			}
		}
	}
	// Outside the rows that scroll Lines changes nothing.
	for _, from := range []string{"abc/def/ghi 0,2+ 1-1", "abc/def/ghi 2,2+ 1-1"} {
		checkDeed(t, from, linesOf(1), "=")
	}
	// A kept cursor that does not pend.
	s := screenOf("abc/def 1,2+")
	s.Saved.Pend = false
	checkDeeds(t, s, []deed{keepOf(true)}, become(s, "= 1,2 origin under"))
}
