package render

import (
	"strings"
	"testing"

	"wayfarer/api"
)

// checkWay holds the way from a place to another one, on a screen on which a row that scrolls or a printed cell would be seen.
func checkWay(t *testing.T, s api.Screen, to int) {
	t.Helper()
	cols := s.Grid.Cols
	way := wayTo(cols, s.Row*cols+s.Col, to)
	want := s
	want.Row, want.Col = to/cols, to%cols
	want.Pend = s.Pend && way == ""
	shown, replies, quiet := played(s, []byte(way))
	if !equal(shown, want) || len(replies) > 0 || !quiet || len(way) > 10 {
		t.Errorf("from %d, %d to %d, %d: %q leads to %d, %d", s.Row, s.Col, want.Row, want.Col, textOf([]byte(way)), shown.Row, shown.Col)
	}
}

// P19.2: ways between all places of a few rows, pending and not.
func TestWays(t *testing.T) {
	t.Parallel()
	for _, picture := range []string{"a", "abcdefghixyz", "a/b/c/d/e/f/g/h/i/x/y/z", "aW-b/X=1./,.~_/abcd/efgh/ixyz"} {
		s := screenOf(picture)
		places := len(s.Grid.Cells)
		for from := range places {
			for to := range places {
				s.Row, s.Col, s.Pend = from/s.Grid.Cols, from%s.Grid.Cols, false
				checkWay(t, s, to)
				s.Pend = s.Col == s.Grid.Cols-1
				checkWay(t, s, to)
			}
		}
	}
}

// P19.2: ways at the longest sides.
func TestFarWays(t *testing.T) {
	t.Parallel()
	for _, s := range []api.Screen{fresh(512, 1), fresh(1, 512)} {
		edges := []int{0, 1, 2, 8, 9, 10, 98, 99, 100, 101, 256, 410, 501, 510, 511}
		for _, from := range edges {
			for _, to := range edges {
				s.Row, s.Col, s.Pend = from/s.Grid.Cols, from%s.Grid.Cols, false
				checkWay(t, s, to)
			}
		}
	}
	for _, c := range []struct {
		from, to int
		way      string
	}{
		{0, 511*512 + 511, "&[512;512H"}, {511*512 + 511, 0, "&[H"}, {511 * 512, 511*512 + 511, "&[511C"}, {511*512 + 511, 511 * 512, "\r"}, {511, 511*512 + 511, "&[511B"}, {511*512 + 511, 511, "&[511A"},
		{300, 5, "&[6G"}, {300, 200, "&[100D"}, {300, 0, "\r"}, {300, 299, "\b"}, {300, 290, "&[10D"}, {300, 512, "\n\r"}, {300, 301, "&[C"}, {300, 812, "\n"}, {300, 5*512 + 300, "&[5B"}, {5*512 + 300, 4*512 + 300, "&[A"}, {300, 512 * 9, "&[10H"}, {300, 512 * 300, "&[301H"},
	} {
		if way := wayTo(512, c.from, c.to); len(way) > len(strings.ReplaceAll(c.way, "&", "\x1b")) {
			t.Errorf("from %d to %d: %q, not %q", c.from, c.to, textOf([]byte(way)), c.way)
		}
	}
}

// P19.2: numbers, and sequences of them, are read back by a terminal as they were meant.
func TestDigits(t *testing.T) {
	for n, want := range map[int]string{0: "", 1: "1", 9: "9", 10: "10", 99: "99", 100: "100", 255: "255", 512: "512", 2004: "2004"} {
		if text := digits(n); text != want {
			t.Errorf("%d is %q", n, text)
		}
	}
	for want, text := range map[string]string{
		"&[m": sequence('m', 0), "&[;1m": sequence('m', 0, 1), "&[38;5;m": sequence('m', 38, 5, 0), "&[H": sequence('H', short(1)), "&[2;H": sequence('H', short(2), short(1)), "&[;512H": sequence('H', short(1), short(512)),
	} {
		if textOf([]byte(text)) != want {
			t.Errorf("%q, not %q", text, want)
		}
	}
}

// P19.2: what is passed is printed once more only if that leaves the cursor where it is to be, and all is as it was.
func TestAlong(t *testing.T) {
	for _, c := range []struct{ passed, way, want string }{
		{"a", "&[C", "a"}, {"ab", "&[2C", "ab"}, {"abc", "&[3C", "abc"}, {"abcd", "&[4C", "&[4C"}, {"abcd", "&[4;99H", "abcd"}, {".", "&[C", " "}, {"1", "&[C", "&[C"}, {"1", "&[99C", "a\u0301"},
		{"W-", "&[2C", "\u4e2d"}, {"aW-b", "&[99;99H", "a\u4e2db"}, {"W", "&[99;99H", "&[99;99H"}, {"aW", "&[99;99H", "&[99;99H"}, {"-", "&[99;99H", "&[99;99H"}, {"-a", "&[99;99H", "&[99;99H"}, {"-W", "&[99;99H", "&[99;99H"},
		{"A", "&[C", "&[C"}, {"aA", "&[99C", "&[99C"}, {"~", "&[C", "&[C"}, {"_", "&[C", "&[C"}, {"aX=", "&[99;99H", "&[99;99H"},
	} {
		way := strings.ReplaceAll(c.way, "&", "\x1b")
		if text := textOf([]byte(along(gridOf(c.passed).Cells, plain(), way))); text != c.want {
			t.Errorf("along %s instead of %q: %q, not %q", c.passed, c.way, text, c.want)
		}
	}
}
