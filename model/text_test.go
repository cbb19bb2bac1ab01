package model

import (
	"strings"
	"testing"

	"wayfarer/api"
)

func checkText(t *testing.T, what string, s api.Screen, want string) {
	t.Helper()
	if text, e := Text(s); text != want || e != api.OK {
		t.Errorf("%s: Text = %q, %d, not %q", what, text, e, want)
	}
}

// P18.2: Text of screens by their pictures.
func TestText(t *testing.T) {
	for _, c := range []struct{ picture, want string }{
		{".", "\n"}, {"...", "\n"}, {".../...", "\n\n"}, {"a", "a\n"}, {"abc/def", "abc\ndef\n"}, {"a/./b", "a\n\nb\n"}, {"./a/.", "\na\n\n"},
		// Blanks at the beginning, between, at the end; of another look too.
		{"a..", "a\n"}, {"..a", "  a\n"}, {"a.b", "a b\n"}, {".a.", " a\n"}, {".a.b..", " a b\n"}, {"a__", "a\n"}, {"_a_b_", " a b\n"}, {"a~~", "a\n"}, {"~a~", " a\n"}, {"a._~._", "a\n"}, {"_~./~._", "\n\n"},
		// Blanks with marks.
		{"a,", "a \u0301\n"}, {"a,..", "a \u0301\n"}, {"a.,.", "a  \u0301\n"}, {",", " \u0301\n"}, {",.,_", " \u0301  \u0301\n"}, {"..,/.,.", "   \u0301\n  \u0301\n"},
		// Wide ones, and marks.
		{"W-", "\u4e2d\n"}, {"aW-b", "a\u4e2db\n"}, {"W-W-", "\u4e2d\u4e2d\n"}, {"W-./.W-", "\u4e2d\n \u4e2d\n"}, {"M-.", "\u4e2d\u0301\n"}, {"X=F-", "\u4e2d\U0001f600\n"}, {"W-..", "\u4e2d\n"},
		{"1", "a\u0301\n"}, {"3", "a\u0301\u0302\U000e0100\n"}, {"31b", "a\u0301\u0302\U000e0100a\u0301b\n"}, {"1..", "a\u0301\n"}, {"AR.", "a\ufffd\n"},
	} {
		checkText(t, c.picture, screenOf(c.picture), c.want)
	}
}

// P18.2: what a text does not tell is of no weight.
func TestTextOthers(t *testing.T) {
	s := screenOf("ab./cW- 1,2+ 1-1 origin insert nowrap novisible ground paste")
	checkText(t, "modes", s, "ab\nc\u4e2d\n")
	s = withMain(s, "xyz/zyx")
	checkText(t, "another grid", s, "ab\nc\u4e2d\n")
	s.Title, s.Tabs = nil, nil
	checkText(t, "no title", s, "ab\nc\u4e2d\n")
	for at := range 3 {
		s.Row, s.Col, s.Pend = 0, at, false
		checkText(t, "a cursor", s, "ab\nc\u4e2d\n")
	}
}

// P18.2: Text of what bytes make.
func TestTextBytes(t *testing.T) {
	for _, c := range []struct {
		cols, rows  int
		bytes, want string
	}{
		{5, 2, "", "\n\n"}, {5, 2, "ab\r\nc", "ab\nc\n"}, {3, 2, "abcd", "abc\nd\n"}, {3, 1, "abc", "abc\n"}, {1, 3, "abc", "a\nb\nc\n"}, {3, 2, "a b   ", "a b\n\n"}, {4, 1, "  a ", "  a\n"},
		{4, 1, "&[41m    ", "\n"}, {4, 1, "a&[4m  ", "a\n"}, {4, 1, "a&[7m \u0301 ", "a \u0301\n"}, {4, 2, "&[44m&[2J", "\n\n"},
		{9, 1, "a\u00e9\u20ac\u4e2d\U0001f600&[3C", "a\u00e9\u20ac\u4e2d\U0001f600\n"}, {9, 1, "\x7f\u00a0\u07ff\u0800\uffff\U00010000\U0010ffff", "\u00a0\u07ff\u0800\uffff\U00010000\U0010ffff\n"},
		{4, 1, "a\u0301\u0302\U000e0100\u0303b", "a\u0301\u0302\U000e0100b\n"}, {4, 1, "\u4e2d\u0301x", "\u4e2d\u0301x\n"}, {2, 1, "\u4e2d", "\u4e2d\n"}, {4, 1, "a\xffb", "a\ufffdb\n"}, {4, 1, "\u4e2d\b\bx", "x\n"}, {4, 1, "a\u4e2d\rxy", "xy\n"},
		{3, 2, "ab&[?1049hx", "  x\n\n"}, {3, 2, "ab&[?47h", "\n\n"}, {3, 2, "ab&[?1049hx&[?1049l", "ab\n\n"}, {3, 2, "ab&c", "\n\n"}, {3, 2, "ab&]2;t\x07&[?25l", "ab\n\n"}, {3, 2, "ab\xe4\xb8", "ab\n\n"},
	} {
		checkText(t, c.bytes, of(t, c.cols, c.rows, c.bytes), c.want)
	}
}

// P18.2: each character of a boundary of a form's length, in a cell of its own and as a mark.
func TestTextForms(t *testing.T) {
	for _, c := range []rune{33, 126, 160, 0x7ff, 0x800, 0xd7ff, 0xe000, 0xfffd, 0xffff, 0x10000, 0x10ffff, wide, face, 0x3fffd} {
		s := of(t, 2, 1, string(c))
		checkText(t, string(c), s, string(c)+"\n")
	}
	for _, c := range []rune{0x300, 0x36f, 0x483, 0x902, 0x200b, 0xfe0f, 0xfeff, 0xe0100, 0xe01ef} {
		checkText(t, string(c), of(t, 3, 1, "a"+string(c)), "a"+string(c)+"\n")
		checkText(t, string(c), of(t, 3, 1, " "+string(c)), " "+string(c)+"\n")
	}
}

// P18.2: full rows of the most columns, and the most rows.
func TestTextSizes(t *testing.T) {
	s := fresh(512, 512)
	checkText(t, "blanks", s, strings.Repeat("\n", 512))
	for at := range s.Grid.Cells {
		s.Grid.Cells[at] = cellOf("abcde"[at%5])
	}
	var want strings.Builder
	for at := range s.Grid.Cells {
		want.WriteByte("abcde"[at%5])
		if at%512 == 511 {
			want.WriteByte('\n')
		}
	}
	checkText(t, "full rows", s, want.String())
	for at := range s.Grid.Cells {
		s.Grid.Cells[at] = cellOf("F-"[at%2])
		if at%2 == 0 {
			s.Grid.Cells[at].Marks = [3]rune{third, third, third}
		}
	}
	checkText(t, "the longest one of wide ones", s, strings.Repeat(strings.Repeat("\U0001f600\U000e0100\U000e0100\U000e0100", 256)+"\n", 512))
	row := fresh(512, 1)
	row.Grid.Cells[511] = cellOf('x')
	checkText(t, "the last column", row, strings.Repeat(" ", 511)+"x\n")
	column := fresh(1, 512)
	column.Grid.Cells[511] = cellOf('x')
	checkText(t, "the last row", column, strings.Repeat("\n", 511)+"x\n")
}

// linesOf is all lines of at most so many characters, each of the ones that may stand, without a blank at its end.
func linesOf(most int, chars string) []string {
	l := []string{""}
	from := 0
	for range most {
		to := len(l)
		for _, line := range l[from:to] {
			for _, c := range chars {
				l = append(l, line+string(c))
			}
		}
		from = to
	}
	var whole []string
	for _, line := range l {
		if !strings.HasSuffix(line, " ") {
			whole = append(whole, line)
		}
	}
	return whole
}

// checkRows holds the text of lines that are written against these lines, and empty ones to the last row.
func checkRows(t *testing.T, cols, rows int, lines []string) {
	t.Helper()
	// The bytes as they are, as & is one of the characters here.
	s, e := Of(cols, rows, []byte(strings.Join(lines, "\r\n")))
	if e != api.OK {
		t.Fatalf("Of(%d, %d) = %d", cols, rows, e)
	}
	want := strings.Join(lines, "\n") + strings.Repeat("\n", rows-len(lines)+1)
	checkText(t, strings.Join(lines, "|"), s, want)
}

// P18.3: the text of plain characters that fit into rows is these rows.
func TestRows(t *testing.T) {
	lines := linesOf(3, "a ")
	for _, first := range lines {
		checkRows(t, 3, 1, []string{first})
		checkRows(t, 3, 3, []string{first})
		for _, last := range lines {
			checkRows(t, 3, 2, []string{first, last})
		}
	}
	n := noise(18)
	for range 100 {
		cols, rows := 1+n.below(40), 1+n.below(10)
		var l []string
		for range 1 + n.below(rows) {
			var line strings.Builder
			for range n.below(cols + 1) {
				line.WriteByte(byte(32 + n.below(95)))
			}
			l = append(l, strings.TrimRight(line.String(), " "))
		}
		checkRows(t, cols, rows, l)
	}
	checkRows(t, 512, 2, []string{strings.Repeat("x", 512), strings.Repeat(" y", 256)})
}
