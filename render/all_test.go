package render

import (
	"strconv"
	"strings"
	"testing"

	"wayfarer/api"
	"wayfarer/emulator"
	"wayfarer/screen"
)

// rowsOf is all pictures of a row of so many signs that may be, by halves of wide ones.
func rowsOf(count int, signs string) (l []string) {
	var lay func(picture string)
	lay = func(picture string) {
		if len(picture) < count {
			for _, sign := range []byte(signs) {
				lay(picture + string(sign))
			}
			return
		}
		if screen.May(api.Screen{Grid: gridOf(picture)}) {
			l = append(l, picture)
		}
	}
	lay("")
	return l
}

// checkAll renders from each of some pictures each other one, with cursors that come round.
func checkAll(t *testing.T, pictures []string) {
	t.Helper()
	l := make([]api.Screen, len(pictures))
	for i, picture := range pictures {
		l[i] = screenOf(picture)
	}
	cols, places := l[0].Grid.Cols, len(l[0].Grid.Cells)
	for i, from := range l {
		for j, to := range l {
			at, next := (i+j)%places, (i+j/3)%places
			from.Row, from.Col = at/cols, at%cols
			to.Row, to.Col = next/cols, next%cols
			check(t, from, to)
		}
	}
}

// P19.2: all pairs of short rows, by what may stand there.
func TestAllRows(t *testing.T) {
	t.Parallel()
	checkAll(t, rowsOf(1, ".~_,ab13AR"))
	checkAll(t, rowsOf(2, ".~_,a13AW-MFX="))
	checkAll(t, rowsOf(3, ".aA1W-MX="))
	checkAll(t, rowsOf(4, ".aW-X="))
}

// P19.2: all pairs of pictures of a few rows.
func TestAllPictures(t *testing.T) {
	t.Parallel()
	var l []string
	for _, first := range rowsOf(2, "._aW-") {
		for _, last := range rowsOf(2, "._aW-") {
			l = append(l, first+"/"+last)
		}
	}
	checkAll(t, l)
	l = nil
	for _, rows := range rowsOf(4, "._ab") {
		l = append(l, strings.Join(strings.Split(rows, ""), "/"))
	}
	checkAll(t, l)
}

// P19.2: all pairs of rows long enough that some of them are cleared, and some are passed.
func TestAllLongRows(t *testing.T) {
	t.Parallel()
	var l []string
	for _, begin := range []string{"......", "aaaaaa", "a....a", "W-W-W-", "aW-W-a", "______", "A____A", "X=X=X=", "abcdef"} {
		for _, end := range []string{"......", "aaaaaa", ".a....", "W-W-W-", ".....a", "______", "_____.", "~~~~~~", "ab1d3f"} {
			l = append(l, begin+end)
		}
	}
	checkAll(t, l)
	var folded []string
	for _, row := range l {
		folded = append(folded, row[:6]+"/"+row[6:], row[:4]+"/"+"cccc/....")
	}
	for _, row := range folded {
		for _, other := range folded {
			if strings.Index(row, "/") == strings.Index(other, "/") && len(row) == len(other) && mayPicture(row) && mayPicture(other) {
				check(t, screenOf(row), screenOf(other))
			}
		}
	}
}

func mayPicture(picture string) bool {
	return screen.May(api.Screen{Grid: gridOf(picture)})
}

// scraps is what bytes that look like chance are put together of.
func scraps() []string {
	return []string{
		"a", "b", " ", "   ", "\u00e9", "\u4e2d", "\U0001f600", "\u0301", "\u0302", "\r", "\n", "\r\n", "\t", "\b", "\xff", "abc", "word ",
		"&[m", "&[1;31m", "&[41m", "&[38;5;99m", "&[7m", "&[K", "&[1K", "&[J", "&[2J", "&[H", "&[2;3H", "&[3;5H", "&[A", "&[C", "&[2L", "&[M", "&[@", "&[2P", "&[X", "&[S", "&[T",
		"&[?25l", "&[?25h", "&[?7l", "&[?7h", "&[4h", "&[4l", "&[?6h", "&[?6l", "&[2;3r", "&[r", "&[?1049h", "&[?1049l", "&[?47h", "&7", "&8", "&c", "&H", "&[3g",
		"&]2;tea\x07", "&]0;\x07", "&]2;\u4e2d\x07", "&[?1h", "&[?1l", "&[?2004h", "&[?2004l",
	}
}

// tamed is bytes behind which a terminal's screen is tame, whatever it was, but keeps most of it.
const tamed = "&[?1049l&[?47l&[?6l&[4l&[?7h&[r&[m&[2;2H"

// made is a terminal of bytes that look like chance.
func made(n *noise, cols, rows, count int) *emulator.Emulator {
	m, _ := emulator.New(cols, rows)
	for range count {
		m.Write(bytesOf(pick(n, scraps())))
	}
	return m
}

// checkTerminal brings to onto a terminal with a tame screen by what Render tells, a byte after the other.
func checkTerminal(t *testing.T, m *emulator.Emulator, to api.Screen) {
	t.Helper()
	from := m.Screen()
	b := check(t, from, to)
	var replies []byte
	for i := range b {
		replies = append(replies, m.Write(b[i:i+1])...)
	}
	if s := m.Screen(); !equal(s, slowAfter(from, to)) || len(replies) > 0 || !m.Quiet() {
		t.Fatalf("%q makes of\n%s\n%s\nnot %s", textOf(b), tellingOf(from), tellingOf(s), tellingOf(slowAfter(from, to)))
	}
}

// P19.2: terminals that were handed bytes that look like chance, one screen behind the other.
func TestChance(t *testing.T) {
	t.Parallel()
	n := noise(1)
	for range 600 {
		cols, rows := 1+n.below(9), 1+n.below(5)
		m := made(&n, cols, rows, n.below(30))
		m.Write(bytesOf(tamed))
		for range 4 {
			checkTerminal(t, m, made(&n, cols, rows, n.below(40)).Screen())
		}
	}
}

// P19.2: a terminal of common size, whose rows go up and are written on.
func TestCommon(t *testing.T) {
	t.Parallel()
	m, _ := emulator.New(40, 12)
	app, _ := emulator.New(40, 12)
	n := noise(2)
	for i := range 60 {
		if i%15 == 14 {
			app.Write(bytesOf("&[H&[2J"))
		}
		for range n.below(8) {
			app.Write(bytesOf(pick(&n, []string{"word ", "$ ls -l", "\r\n", "\r\n", "&[1;34mdir&[m  ", "&[K", "\u4e2d\u6587", "a\u0301"})))
		}
		checkTerminal(t, m, app.Screen())
	}
}

// P19.2: rows that go up on a full screen take about as many bytes as what is new.
func TestMore(t *testing.T) {
	t.Parallel()
	app, _ := emulator.New(40, 12)
	for i := range 20 {
		app.Write(bytesOf("\r\n" + strconv.Itoa(i) + " is a row of &[1mwords&[m"))
	}
	for i, c := range []struct {
		text string
		most int
	}{{"&[H&[12;1H", 10}, {"x\r\n", 14}, {"more\r\n", 16}, {"&[1mbold&[m\r\nand\r\n", 30}, {"\r\n\r\n\r\n$ ", 12}} {
		before := app.Screen()
		before.Style = plain()
		app.Write(bytesOf(c.text))
		if b := check(t, before, app.Screen()); len(b) > c.most {
			t.Errorf("step %d takes %d bytes: %q", i, len(b), textOf(b))
		}
	}
}
