package grid

import (
	"math"
	"strconv"
	"testing"

	"wayfarer/api"
)

// told is a call as a text, for when it fails.
func told(name string, g api.Grid, numbers ...int) string {
	for _, n := range numbers {
		name += " " + strconv.Itoa(n)
	}
	return name + " of " + pictureOf(g)
}

// P15.1: Write by hand.
func TestWrite(t *testing.T) {
	for _, c := range []struct {
		picture  string
		row, col int
		cells    string
		want     string
	}{
		// No cells, one, as many as fit, one more, many more.
		{"abc", 0, 0, "", "abc"}, {"abc", 0, 1, "", "abc"}, {"abc", 0, 2, "", "abc"}, {"abc", 0, 3, "", ""}, {"W-c", 0, 1, "", "W-c"},
		{"abc", 0, 0, "d", "dbc"}, {"abc", 0, 1, "d", "adc"}, {"abc", 0, 2, "d", "abd"}, {"abc", 0, 3, "d", ""},
		{"...", 0, 0, "abc", "abc"}, {"...", 0, 0, "abcd", "abc"}, {"...", 0, 1, "ab", ".ab"}, {"...", 0, 1, "abc", ".ab"}, {"...", 0, 2, "abc", "..a"}, {"...", 0, 0, "abcdeabcde", "abc"},
		// What does not fit gets nowhere else.
		{"abc/dea", 0, 1, "BCB", "aBC/dea"}, {"abc/dea", 1, 0, "ABCA", "abc/ABC"}, {"abc/dea/bcd", 1, 2, "AB", "abc/deA/bcd"},
		// A wide character at the row's end.
		{"....", 0, 2, "W-", "..W-"}, {"....", 0, 3, "W-", "...."}, {"....", 0, 3, "X=", "..._"}, {"....", 0, 1, "abW-", ".ab."}, {"abc/...", 0, 2, "X=", "ab_/..."}, {".", 0, 0, "X=", "_"}, {"..", 0, 0, "X=", "X="},
		// One of its halves by itself.
		{"abc", 0, 0, "X", "_bc"}, {"abc", 0, 1, "X", "a_c"}, {"abc", 0, 2, "X", "ab_"}, {"abc", 0, 0, "=", "_bc"}, {"abc", 0, 1, "=", "a_c"}, {"abc", 0, 2, "=", "ab_"},
		{"abc", 0, 0, "=X", "__c"}, {"abc", 0, 0, "XX=", "_X="}, {"abc", 0, 0, "X==", "X=_"}, {"abc", 0, 0, "W=", "._c"}, {"abc", 0, 0, "X~", "_.c"}, {"abc", 0, 1, "Y-", "a.."},
		// A half that comes to stand beside the half of another one.
		{"aW-", 0, 0, "X", "_W-"}, {"W-a", 0, 2, "=", "W-_"}, {"aW-", 0, 1, "M", "aM-"}, {"aW-", 0, 2, "-", "aW-"}, {"aW-", 0, 1, "X", "a_."}, {"aX=", 0, 2, "-", "a_."}, {"aY~", 0, 2, "-", "a.."},
		// Over one half of a wide character that stands there.
		{"X=X=", 0, 0, "a", "a_X="}, {"X=X=", 0, 1, "a", "_aX="}, {"X=X=", 0, 2, "a", "X=a_"}, {"X=X=", 0, 3, "a", "X=_a"}, {"X=X=", 0, 1, "ab", "_ab_"}, {"X=X=", 0, 1, "W-", "_W-_"}, {"X=X=", 0, 0, "W-", "W-X="}, {"X=W-", 0, 1, "A", "_AW-"}, {"X=W-", 0, 2, "A", "X=A."},
		// Rows and columns that there are not.
		{"ab", 1, 0, "c", ""}, {"ab", -1, 0, "c", ""}, {"ab", 0, 2, "c", ""}, {"ab", 0, -1, "c", ""}, {"ab/cd", 2, 0, "c", ""}, {"ab/cd", 1, 2, "c", ""}, {"ab/cd", -1, 1, "c", ""}, {"ab", 0, -1, "cd", ""},
		{"ab", math.MinInt, 0, "c", ""}, {"ab", math.MaxInt, 0, "c", ""}, {"ab", 0, math.MinInt, "c", ""}, {"ab", 0, math.MaxInt, "c", ""}, {"ab", 1 << 32, 0, "c", ""}, {"ab", 0, 1 << 32, "c", ""}, {"ab", math.MaxInt, math.MaxInt, "", ""},
	} {
		// The style is of no weight, but for whether it may be.
		for _, s := range goodStyles() {
			g, e := Write(gridOf(c.picture), c.row, c.col, s, cellsOf(c.cells)...)
			checkPicture(t, told("Write "+c.cells, gridOf(c.picture), c.row, c.col), g, e, c.want)
		}
	}
}

// P15.1: Write of cells that may not be is ErrArg, at each place among them, those that would not fit too.
func TestWriteBadCells(t *testing.T) {
	for _, c := range badCells() {
		for count := 1; count <= 4; count++ {
			for at := range count {
				l := cellsOf("abcd")[:count]
				l[at] = c
				for col := range 3 {
					g, e := Write(gridOf("..."), 0, col, plain(), l...)
					checkPicture(t, told("Write", gridOf("..."), col, at), g, e, "")
				}
			}
		}
		// A run of them: those behind the first one are as the one ahead.
		g, e := Write(gridOf("..."), 0, 0, plain(), cellOf('a'), c, c)
		checkPicture(t, "Write", g, e, "")
	}
}

// P15.2: Erase by hand.
func TestErase(t *testing.T) {
	for _, c := range []struct {
		picture       string
		row, from, to int
		want          string
	}{
		{"abc", 0, 0, 0, "abc"}, {"abc", 0, 1, 1, "abc"}, {"abc", 0, 3, 3, "abc"}, {"abc", 0, 0, 1, "_bc"}, {"abc", 0, 1, 2, "a_c"}, {"abc", 0, 2, 3, "ab_"}, {"abc", 0, 0, 3, "___"}, {"abc", 0, 1, 3, "a__"}, {"abc", 0, 0, 2, "__c"},
		{"abc/dea", 0, 1, 3, "a__/dea"}, {"abc/dea", 1, 0, 1, "abc/_ea"}, {"abc/dea", 1, 3, 3, "abc/dea"}, {"abc/dea/bcd", 1, 0, 3, "abc/___/bcd"},
		// Through a wide character at each of its ends: what is left of it is a blank of its own style.
		{"aW-b", 0, 1, 2, "a_.b"}, {"aW-b", 0, 2, 3, "a._b"}, {"aW-b", 0, 1, 3, "a__b"}, {"aW-b", 0, 0, 2, "__.b"}, {"aW-b", 0, 2, 4, "a.__"}, {"aW-b", 0, 0, 1, "_W-b"}, {"aW-b", 0, 3, 4, "aW-_"}, {"aW-b", 0, 2, 2, "aW-b"}, {"aW-b", 0, 1, 1, "aW-b"},
		{"W-", 0, 0, 1, "_."}, {"W-", 0, 1, 2, "._"}, {"W-", 0, 1, 1, "W-"}, {"W-X=", 0, 1, 3, ".___"}, {"X=W-", 0, 1, 3, "___."}, {"M-W-", 0, 1, 2, "._W-"},
		// Turned about, beyond, at rows that there are not.
		{"abc", 0, 1, 0, ""}, {"abc", 0, 3, 2, ""}, {"abc", 0, 3, 0, ""}, {"abc", 0, 0, 4, ""}, {"abc", 0, 4, 4, ""}, {"abc", 0, 3, 4, ""}, {"abc", 0, -1, 0, ""}, {"abc", 0, -1, -1, ""}, {"abc", 0, -1, 3, ""}, {"abc", 0, 0, -1, ""},
		{"abc", 1, 0, 1, ""}, {"abc", -1, 0, 1, ""}, {"abc/dea", 2, 0, 1, ""}, {"abc/dea", -1, 3, 3, ""}, {"abc/dea", 0, 3, 4, ""}, {"abc", 1, 0, 0, ""},
		{"abc", math.MinInt, 0, 1, ""}, {"abc", math.MaxInt, 0, 1, ""}, {"abc", 0, math.MinInt, 1, ""}, {"abc", 0, 1, math.MaxInt, ""}, {"abc", 0, math.MaxInt, math.MinInt, ""}, {"abc", 0, math.MinInt, math.MaxInt, ""}, {"abc", 0, math.MinInt, math.MinInt, ""}, {"abc", 0, math.MaxInt, math.MaxInt, ""}, {"abc", 1 << 32, 0, 1, ""}, {"abc", 0, 1 << 32, 1<<32 + 1, ""},
	} {
		g, e := Erase(gridOf(c.picture), c.row, c.from, c.to, ground())
		checkPicture(t, told("Erase", gridOf(c.picture), c.row, c.from, c.to), g, e, c.want)
	}
}

// P15.2: Shift by hand.
func TestShift(t *testing.T) {
	const least, greatest = math.MinInt, math.MaxInt
	for _, c := range []struct {
		picture       string
		row, from, by int
		want          string
	}{
		{"abcd", 0, 0, 0, "abcd"}, {"abcd", 0, 3, 0, "abcd"},
		{"abcd", 0, 0, 1, "_abc"}, {"abcd", 0, 1, 1, "a_bc"}, {"abcd", 0, 2, 1, "ab_c"}, {"abcd", 0, 3, 1, "abc_"}, {"abcd", 0, 1, 2, "a__b"}, {"abcd", 0, 1, 3, "a___"}, {"abcd", 0, 0, 3, "___a"},
		{"abcd", 0, 0, 4, "____"}, {"abcd", 0, 0, 5, "____"}, {"abcd", 0, 1, 4, "a___"}, {"abcd", 0, 2, 3, "ab__"}, {"abcd", 0, 3, 9, "abc_"}, {"abcd", 0, 0, greatest, "____"}, {"abcd", 0, 2, greatest, "ab__"}, {"abcd", 0, 3, greatest, "abc_"}, {"abcd", 0, 1, 1 << 32, "a___"},
		{"abcd", 0, 0, -1, "bcd_"}, {"abcd", 0, 1, -1, "acd_"}, {"abcd", 0, 2, -1, "abd_"}, {"abcd", 0, 3, -1, "abc_"}, {"abcd", 0, 1, -2, "ad__"}, {"abcd", 0, 1, -3, "a___"}, {"abcd", 0, 0, -3, "d___"},
		{"abcd", 0, 0, -4, "____"}, {"abcd", 0, 0, -5, "____"}, {"abcd", 0, 1, -4, "a___"}, {"abcd", 0, 2, -3, "ab__"}, {"abcd", 0, 0, least, "____"}, {"abcd", 0, 0, least + 1, "____"}, {"abcd", 0, 2, least, "ab__"}, {"abcd", 0, 3, least, "abc_"}, {"abcd", 0, 1, -1 << 32, "a___"},
		{"a", 0, 0, 0, "a"}, {"a", 0, 0, 1, "_"}, {"a", 0, 0, -1, "_"}, {"a", 0, 0, least, "_"}, {"a", 0, 0, greatest, "_"},
		// The other rows stay.
		{"ab/cd/ea", 1, 0, 1, "ab/_c/ea"}, {"ab/cd/ea", 1, 0, -1, "ab/d_/ea"}, {"ab/cd/ea", 0, 1, 7, "a_/cd/ea"}, {"ab/cd/ea", 2, 0, -7, "ab/cd/__"},
		// Through wide characters: at from, at the row's end.
		{"aW-b", 0, 0, 1, "_aW-"}, {"aW-b", 0, 0, 2, "__a."}, {"aW-b", 0, 1, 1, "a_W-"}, {"aW-b", 0, 1, 2, "a__."}, {"aW-b", 0, 2, 1, "a._."}, {"aW-b", 0, 2, 0, "aW-b"}, {"aW-b", 0, 2, 2, "a.__"}, {"aW-b", 0, 3, 1, "aW-_"},
		{"aW-b", 0, 0, -1, "W-b_"}, {"aW-b", 0, 0, -2, ".b__"}, {"aW-b", 0, 0, -3, "b___"}, {"aW-b", 0, 1, -1, "a.b_"}, {"aW-b", 0, 2, -1, "a.b_"}, {"aW-b", 0, 2, -2, "a.__"}, {"aW-b", 0, 3, -1, "aW-_"},
		// Of a wide character that lost its second half, and of one that lost its first, one is made.
		{"W-W-", 0, 1, -2, "W-__"}, {"W-M-", 0, 1, -2, "W-__"}, {"W-X=", 0, 1, -2, ".___"}, {"W-Y~", 0, 1, -2, "..__"}, {"aW-W-", 0, 2, -2, "aW-__"},
		// Rows and columns that there are not.
		{"ab", 0, 2, 1, ""}, {"ab", 0, 2, 0, ""}, {"ab", 0, -1, 1, ""}, {"ab", 0, -1, 0, ""}, {"ab", 1, 0, 1, ""}, {"ab", -1, 0, 1, ""}, {"ab/cd", 2, 0, 1, ""}, {"ab/cd", 0, 2, -1, ""}, {"ab/cd", -1, 1, 1, ""},
		{"ab", least, 0, 1, ""}, {"ab", greatest, 0, 1, ""}, {"ab", 0, least, 1, ""}, {"ab", 0, greatest, 1, ""}, {"ab", 0, least, least, ""}, {"ab", 0, greatest, greatest, ""}, {"ab", 1 << 32, 0, 0, ""}, {"ab", 0, 1 << 32, 0, ""},
	} {
		g, e := Shift(gridOf(c.picture), c.row, c.from, c.by, ground())
		checkPicture(t, told("Shift", gridOf(c.picture), c.row, c.from, c.by), g, e, c.want)
	}
}

// P15.3: Scroll by hand.
func TestScroll(t *testing.T) {
	const least, greatest = math.MinInt, math.MaxInt
	for _, c := range []struct {
		picture         string
		top, bottom, by int
		want            string
	}{
		{"a/b/c/d", 0, 3, 0, "a/b/c/d"}, {"a/b/c/d", 0, 3, 1, "b/c/d/_"}, {"a/b/c/d", 0, 3, 2, "c/d/_/_"}, {"a/b/c/d", 0, 3, 3, "d/_/_/_"}, {"a/b/c/d", 0, 3, 4, "_/_/_/_"}, {"a/b/c/d", 0, 3, 5, "_/_/_/_"}, {"a/b/c/d", 0, 3, greatest, "_/_/_/_"},
		{"a/b/c/d", 0, 3, -1, "_/a/b/c"}, {"a/b/c/d", 0, 3, -2, "_/_/a/b"}, {"a/b/c/d", 0, 3, -3, "_/_/_/a"}, {"a/b/c/d", 0, 3, -4, "_/_/_/_"}, {"a/b/c/d", 0, 3, -5, "_/_/_/_"}, {"a/b/c/d", 0, 3, least, "_/_/_/_"}, {"a/b/c/d", 0, 3, least + 1, "_/_/_/_"},
		// A part of the rows.
		{"a/b/c/d", 1, 2, 1, "a/c/_/d"}, {"a/b/c/d", 1, 2, 2, "a/_/_/d"}, {"a/b/c/d", 1, 2, 3, "a/_/_/d"}, {"a/b/c/d", 1, 2, -1, "a/_/b/d"}, {"a/b/c/d", 1, 2, -2, "a/_/_/d"}, {"a/b/c/d", 1, 2, least, "a/_/_/d"}, {"a/b/c/d", 1, 2, greatest, "a/_/_/d"}, {"a/b/c/d", 0, 2, 1, "b/c/_/d"}, {"a/b/c/d", 1, 3, 2, "a/d/_/_"}, {"a/b/c/d", 1, 3, -1, "a/_/b/c"},
		// One row.
		{"a/b/c", 0, 0, 1, "_/b/c"}, {"a/b/c", 1, 1, -1, "a/_/c"}, {"a/b/c", 2, 2, 1, "a/b/_"}, {"a/b/c", 2, 2, 0, "a/b/c"}, {"a/b/c", 1, 1, greatest, "a/_/c"}, {"a", 0, 0, 1, "_"}, {"a", 0, 0, 0, "a"},
		// Several columns, with wide characters.
		{"aW-/X=b/cde", 0, 2, 1, "X=b/cde/___"}, {"aW-/X=b/cde", 0, 2, -1, "___/aW-/X=b"}, {"aW-/X=b/cde", 0, 1, 1, "X=b/___/cde"}, {"aW-/X=b/cde", 1, 2, -1, "aW-/___/X=b"}, {"aW-/X=b/cde", 1, 1, 1, "aW-/___/cde"},
		// Turned about, beyond.
		{"a/b", 0, 2, 1, ""}, {"a/b", 1, 0, 1, ""}, {"a/b", 1, 0, 0, ""}, {"a/b", -1, 1, 1, ""}, {"a/b", -1, -1, 1, ""}, {"a/b", 2, 2, 1, ""}, {"a/b", 0, -1, 1, ""}, {"a/b", 2, 1, 0, ""}, {"ab", 0, 1, 1, ""},
		{"a/b", least, 1, 1, ""}, {"a/b", 0, greatest, 1, ""}, {"a/b", least, greatest, 1, ""}, {"a/b", greatest, least, 1, ""}, {"a/b", greatest, greatest, 1, ""}, {"a/b", least, least, 1, ""}, {"a/b", 1 << 32, 1 << 32, 1, ""}, {"a/b", 0, 1 << 32, 1, ""},
	} {
		g, e := Scroll(gridOf(c.picture), c.top, c.bottom, c.by, ground())
		checkPicture(t, told("Scroll", gridOf(c.picture), c.top, c.bottom, c.by), g, e, c.want)
	}
}

// P15.3: Resize by hand.
func TestResize(t *testing.T) {
	for _, c := range []struct {
		picture    string
		cols, rows int
		want       string
	}{
		{"abc/dea", 3, 2, "abc/dea"}, {"abc/dea", 2, 2, "ab/de"}, {"abc/dea", 1, 2, "a/d"}, {"abc/dea", 3, 1, "abc"}, {"abc/dea", 1, 1, "a"}, {"abc/dea", 2, 1, "ab"},
		{"abc/dea", 4, 2, "abc_/dea_"}, {"abc/dea", 5, 2, "abc__/dea__"}, {"abc/dea", 3, 3, "abc/dea/___"}, {"abc/dea", 4, 4, "abc_/dea_/____/____"},
		{"abc/dea", 2, 3, "ab/de/__"}, {"abc/dea", 4, 1, "abc_"}, {"abc/dea", 1, 4, "a/d/_/_"}, {"a", 3, 2, "a__/___"}, {"a", 1, 1, "a"},
		// Through a wide character.
		{"aW-", 3, 1, "aW-"}, {"aW-", 2, 1, "a."}, {"aW-", 1, 1, "a"}, {"W-", 1, 1, "."}, {"aW-/bcd/W-e", 3, 1, "aW-"}, {"aW-b/bX=d/W-X=/X=W-", 3, 4, "aW-/bX=/W-_/X=."}, {"aW-b/bX=d/W-X=/X=W-", 2, 5, "a./b_/W-/X=/__"}, {"aW-b/bX=d/W-X=/X=W-", 1, 3, "a/b/."}, {"aM-", 2, 2, "a./__"}, {"aW-", 4, 2, "aW-_/____"},
		// Sizes that may not be.
		{"abc", 0, 1, ""}, {"abc", 1, 0, ""}, {"abc", 0, 0, ""}, {"abc", -1, 1, ""}, {"abc", 1, -1, ""}, {"abc", -1, -1, ""}, {"abc", 513, 1, ""}, {"abc", 1, 513, ""}, {"abc", 513, 513, ""}, {"abc", -3, -1, ""},
		{"abc", math.MinInt, 1, ""}, {"abc", 1, math.MinInt, ""}, {"abc", math.MaxInt, 1, ""}, {"abc", 1, math.MaxInt, ""}, {"abc", math.MinInt, math.MinInt, ""}, {"abc", math.MaxInt, math.MaxInt, ""}, {"abc", 1 << 32, 1 << 32, ""}, {"abc", 1<<32 + 1, 1, ""}, {"abc", 1, 1<<32 + 1, ""},
	} {
		g, e := Resize(gridOf(c.picture), c.cols, c.rows, ground())
		checkPicture(t, told("Resize", gridOf(c.picture), c.cols, c.rows), g, e, c.want)
	}
}
