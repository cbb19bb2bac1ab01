package grid

import (
	"math"
	"reflect"
	"strings"
	"testing"

	"wayfarer/api"
	"wayfarer/cell"
)

// noise is numbers that look like chance and are always the same ones.
type noise uint64

func (n *noise) next() uint64 {
	*n = *n*6364136223846793005 + 1442695040888963407
	return uint64(*n >> 32)
}

func (n *noise) below(count int) int {
	return int(n.next() % uint64(count))
}

func pick[T any](n *noise, l []T) T {
	return l[n.below(len(l))]
}

// Styles: plain; one with a ground of its own; one whose blanks are those of the plain one.
func plain() api.Style  { return api.Style{Fg: -1, Bg: -1} }
func ground() api.Style { return api.Style{Fg: 1, Bg: 4, Bold: true} }
func under() api.Style  { return api.Style{Fg: -1, Bg: -1, Under: true} }

// marks is what stands for a cell in a picture of a row.
const marks = ".abcdeW-M_ABCX=Y~"

// cellOf is the cell that a mark stands for: a dot is a blank, letters are themselves, W and - the halves of a wide one, M a first half with a mark; of the style ground are _, capital letters, X and =; of the style under Y and ~.
func cellOf(mark byte) api.Cell {
	switch mark {
	case '.':
		return api.Cell{Char: 32, Wide: 1, Style: plain()}
	case 'W':
		return api.Cell{Char: 0x4e2d, Wide: 2, Style: plain()}
	case 'M':
		return api.Cell{Char: 0x4e2d, Marks: [3]rune{0x301, 0x302}, Wide: 2, Style: plain()}
	case '-':
		return api.Cell{Style: plain()}
	case '_':
		return api.Cell{Char: 32, Wide: 1, Style: api.Style{Fg: -1, Bg: 4}}
	case 'A', 'B', 'C':
		return api.Cell{Char: rune(mark), Marks: [3]rune{0x301}, Wide: 1, Style: ground()}
	case 'X':
		return api.Cell{Char: 0x1f600, Wide: 2, Style: ground()}
	case '=':
		return api.Cell{Style: ground()}
	case 'Y':
		return api.Cell{Char: 0xac00, Wide: 2, Style: under()}
	case '~':
		return api.Cell{Style: under()}
	}
	return api.Cell{Char: rune(mark), Wide: 1, Style: plain()}
}

func cellsOf(picture string) (l []api.Cell) {
	for _, mark := range []byte(picture) {
		l = append(l, cellOf(mark))
	}
	return l
}

// gridOf is the grid of a picture, whose rows are told apart by /.
func gridOf(picture string) api.Grid {
	rows := strings.Split(picture, "/")
	for _, row := range rows {
		if len(row) != len(rows[0]) {
			panic(picture + " has rows of unlike lengths")
		}
	}
	return api.Grid{Cols: len(rows[0]), Rows: len(rows), Cells: cellsOf(strings.Join(rows, ""))}
}

// pictureOf is the picture of a grid; ? stands for a cell that has no mark.
func pictureOf(g api.Grid) string {
	var b strings.Builder
	for i, c := range g.Cells {
		if i > 0 && g.Cols > 0 && i%g.Cols == 0 {
			b.WriteByte('/')
		}
		mark := byte('?')
		for _, m := range []byte(marks) {
			if cellOf(m) == c {
				mark = m
			}
		}
		b.WriteByte(mark)
	}
	return b.String()
}

// equal is whether grids are the same, by the library's own comparison; lists that are nil and lists without elements are.
func equal(g, h api.Grid) bool {
	if len(g.Cells) == 0 && len(h.Cells) == 0 {
		g.Cells, h.Cells = nil, nil
	}
	return reflect.DeepEqual(g, h)
}

// check holds what a call answered against what it should.
func check(t *testing.T, what string, got api.Grid, e api.Errno, want api.Grid, wantE api.Errno) {
	t.Helper()
	if e != wantE || !equal(got, want) {
		t.Fatalf("%s = %d x %d %s, %d, not %d x %d %s, %d", what, got.Cols, got.Rows, pictureOf(got), e, want.Cols, want.Rows, pictureOf(want), wantE)
	}
	if e == api.OK && !May(got) {
		t.Fatalf("%s = %s, which may not be", what, pictureOf(got))
	}
}

// checkPicture does so with a picture; with none it should be ErrArg.
func checkPicture(t *testing.T, what string, got api.Grid, e api.Errno, want string) {
	t.Helper()
	if want == "" {
		check(t, what, got, e, api.Grid{}, api.ErrArg)
		return
	}
	check(t, what, got, e, gridOf(want), api.OK)
}

// badStyles is styles that may not be.
func badStyles() []api.Style {
	return []api.Style{
		{Fg: -2, Bg: -1}, {Fg: -1, Bg: -2}, {Fg: 256, Bg: -1}, {Fg: -1, Bg: 256}, {Fg: 300, Bg: 300},
		{Fg: math.MinInt, Bg: 0}, {Fg: math.MaxInt, Bg: 0}, {Fg: 0, Bg: math.MinInt}, {Fg: 0, Bg: math.MaxInt},
	}
}

// badCells is cells that may not be.
func badCells() (l []api.Cell) {
	l = []api.Cell{
		{Char: 'a', Wide: 2, Style: plain()}, {Char: 'a', Wide: 0, Style: plain()}, {Char: 'a', Wide: 3, Style: plain()},
		{Char: 0x4e2d, Wide: 1, Style: plain()}, {Char: 10, Wide: 1, Style: plain()}, {Char: 0x301, Wide: 1, Style: plain()},
		{Char: 0, Wide: 1, Style: plain()}, {Char: -1, Wide: 1, Style: plain()},
		{Marks: [3]rune{0x301}, Style: plain()}, {Char: 'a', Marks: [3]rune{'b'}, Wide: 1, Style: plain()},
		{Char: 'a', Marks: [3]rune{0, 0x301}, Wide: 1, Style: plain()},
	}
	for _, s := range badStyles() {
		l = append(l, api.Cell{Char: 'a', Wide: 1, Style: s}, api.Cell{Style: s}, api.Cell{Char: ' ', Wide: 1, Style: s})
	}
	return l
}

// goodStyles is styles that may be.
func goodStyles() []api.Style {
	return []api.Style{plain(), ground(), under(), {}, {Fg: 255, Bg: 255}, {Fg: 0, Bg: -1}, {Fg: 7, Bg: 8, Inverse: true, Struck: true}}
}

// badGrids is grids that may not be.
func badGrids() (l []api.Grid) {
	two := cellsOf("ab")
	l = []api.Grid{
		{}, {Cols: 1}, {Rows: 1}, {Cols: 1, Rows: 1}, {Cells: two}, {Cols: 2, Rows: 1, Cells: two[:1]}, {Cols: 1, Rows: 1, Cells: two},
		{Cols: 0, Rows: 2, Cells: two}, {Cols: 2, Rows: 0, Cells: two}, {Cols: -1, Rows: -2, Cells: two}, {Cols: -2, Rows: -1, Cells: two},
		gridOf("W"), gridOf("-"), gridOf("W="), gridOf("Wa"), gridOf("a-"), gridOf("aW/-a"), gridOf("ab/-W"), gridOf("W--"), gridOf("WW-"),
	}
	for _, c := range badCells() {
		for at := range 4 {
			g := gridOf("ab/cd")
			g.Cells[at] = c
			l = append(l, g)
		}
	}
	return l
}

// P15.1, P15.2, P15.3: the examples of the chapter.
func TestExamples(t *testing.T) {
	g, e := Write(gridOf("...."), 0, 1, plain(), cellsOf("ab")...)
	checkPicture(t, "Write", g, e, ".ab.")
	g, e = Write(g, 0, 3, plain(), cellsOf("W-")...)
	checkPicture(t, "Write", g, e, ".ab.")
	g, e = Erase(gridOf("W-a."), 0, 1, 2, plain())
	checkPicture(t, "Erase", g, e, "..a.")
	g, e = Shift(gridOf("abc"), 0, 1, 1, plain())
	checkPicture(t, "Shift", g, e, "a.b")
	g, e = Shift(gridOf("abc"), 0, 0, -2, plain())
	checkPicture(t, "Shift", g, e, "c..")
	g, e = New(0, 1, plain())
	checkPicture(t, "New", g, e, "")
	g, e = Scroll(gridOf("a/b"), 0, 2, 1, plain())
	checkPicture(t, "Scroll", g, e, "")
}

// What the pictures stand for is what the layer below makes.
func TestMarks(t *testing.T) {
	for _, mark := range []byte(marks) {
		if !cell.May(cellOf(mark)) {
			t.Errorf("%c may not be", mark)
		}
	}
	if cellOf('.') != cell.Blank(plain()) || cellOf('_') != cell.Blank(ground()) || cellOf('.') != cell.Blank(under()) {
		t.Error("blanks are others")
	}
	for _, s := range goodStyles() {
		if slowBlank(s) != cell.Blank(s) {
			t.Errorf("the blank of %v is %v", s, cell.Blank(s))
		}
	}
}

// P15.1: New at each side's edges, of styles that may and may not be.
func TestNew(t *testing.T) {
	sides := []int{math.MinInt, math.MinInt + 1, -1 << 32, -512, -2, -1, 0, 1, 2, 3, 80, 511, 512, 513, 514, 1024, 1 << 16, 1<<32 + 1, 1 << 33, math.MaxInt - 1, math.MaxInt}
	for _, cols := range sides {
		for _, rows := range sides {
			got, e := New(cols, rows, ground())
			want, wantE := slowNew(cols, rows, ground())
			if may := cols >= 1 && cols <= 512 && rows >= 1 && rows <= 512; may != (e == api.OK) {
				t.Fatalf("New(%d, %d) = %d", cols, rows, e)
			}
			check(t, "New", got, e, want, wantE)
			if len(got.Cells) != cap(got.Cells) {
				t.Fatalf("New(%d, %d) has room behind its end", cols, rows)
			}
		}
	}
	for _, s := range goodStyles() {
		got, e := New(2, 2, s)
		blank := cell.Blank(s)
		check(t, "New", got, e, api.Grid{Cols: 2, Rows: 2, Cells: []api.Cell{blank, blank, blank, blank}}, api.OK)
	}
	for _, s := range badStyles() {
		got, e := New(2, 2, s)
		checkPicture(t, "New", got, e, "")
	}
}

// P15.1: a grid whose size is such as may not be, or not that of its cells, may not be.
func TestMaySize(t *testing.T) {
	many := make([]api.Cell, 513*513)
	fill(many, plain())
	sizes := []struct {
		cols, rows, count int
		want              bool
	}{
		{1, 1, 1, true}, {1, 1, 0, false}, {1, 1, 2, false}, {0, 0, 0, false}, {0, 1, 0, false}, {1, 0, 0, false}, {0, 1, 1, false},
		{2, 3, 6, true}, {3, 2, 6, true}, {6, 1, 6, true}, {1, 6, 6, true}, {2, 3, 5, false}, {2, 3, 7, false}, {2, 3, 0, false},
		{512, 1, 512, true}, {513, 1, 513, false}, {1, 512, 512, true}, {1, 513, 513, false}, {512, 512, 512 * 512, true},
		{512, 512, 512*512 - 1, false}, {512, 512, 512*512 + 1, false}, {513, 512, 513 * 512, false}, {512, 513, 513 * 512, false}, {513, 513, 513 * 513, false},
		{-1, -1, 1, false}, {-2, -3, 6, false}, {-1, 1, 1, false}, {1, -1, 1, false}, {-1, 1, 0, false},
		// Products that come round to the number of cells, if they are kept in 64 bits, or in 32.
		{1 << 32, 1 << 32, 0, false}, {1 << 33, 1 << 31, 0, false}, {math.MinInt, 2, 0, false}, {2, math.MinInt, 0, false}, {math.MinInt, math.MinInt, 0, false},
		{math.MaxInt, math.MaxInt, 1, false}, {math.MinInt + 1, math.MinInt + 1, 1, false}, {1 << 16, 1 << 16, 0, false}, {1<<32 + 1, 1, 1, false}, {1, 1<<32 + 1, 1, false}, {math.MaxUint32, math.MaxUint32, 1, false},
		{math.MaxInt, 1, 1, false}, {1, math.MaxInt, 1, false}, {math.MinInt, 1, 1, false}, {1, math.MinInt, 0, false},
	}
	for _, c := range sizes {
		g := api.Grid{Cols: c.cols, Rows: c.rows, Cells: many[:c.count]}
		if May(g) != c.want {
			t.Errorf("May(%d x %d of %d cells) = %v", c.cols, c.rows, c.count, !c.want)
		}
		if c.count == 0 {
			g.Cells = nil
			if May(g) {
				t.Errorf("May(%d x %d of no cells)", c.cols, c.rows)
			}
		}
	}
}

// P15.1: halves of wide characters at each place of a row.
func TestMayHalves(t *testing.T) {
	pictures := map[string]bool{
		"W-": true, "X=": true, "M-": true, "aW-": true, "W-a": true, "W-W-": true, "W-X=": true, "X=W-Y~": true, "W-/W-": true, "aW-/X=b": true,
		"W": false, "-": false, "-W": false, "Wa": false, "aW": false, "-a": false, "a-": false, "a-b": false, "aWb": false, "W.": false, ".-": false,
		"WW": false, "--": false, "WW-": false, "W--": false, "WW--": false, "W-W": false, "-W-": false, "W--W": false, "WX=-": false,
		"W=": false, "X-": false, "W~": false, "Y-": false, "X~": false, "Y=": false, "aW=": false, "W=a": false,
		"W/-": false, "aW/-a": false, "W-/-W": false, "ab/-c": false, "aW/bc": false, "ab/cW": false, "W-W/-W-": false, "aX=W/-W-a": false,
	}
	for picture, want := range pictures {
		if g := gridOf(picture); May(g) != want || slowMay(g) != want {
			t.Errorf("May(%s) = %v, %v read slowly", picture, May(g), slowMay(g))
		}
	}
}

// P15.1: the halves of a wide character that differ in one field of their styles are two halves, each by itself.
func TestMayStyles(t *testing.T) {
	for _, s := range goodStyles() {
		pair := cell.Put(0x4e2d, s)
		if !May(api.Grid{Cols: 2, Rows: 1, Cells: pair}) {
			t.Errorf("a wide character of %v may not be", s)
		}
		for i, other := range turned(s) {
			for half := range 2 {
				g := api.Grid{Cols: 2, Rows: 1, Cells: cell.Put(0x4e2d, s)}
				g.Cells[half].Style = other
				if May(g) {
					t.Errorf("%d: halves of %v and %v may be", i, s, other)
				}
				want := []api.Cell{cell.Blank(s), cell.Blank(s)}
				want[half] = cell.Blank(other)
				got, e := Write(api.Grid{Cols: 2, Rows: 1, Cells: pair}, 0, 0, plain(), g.Cells...)
				check(t, "Write", got, e, api.Grid{Cols: 2, Rows: 1, Cells: want}, api.OK)
			}
		}
	}
}

// turned is s with each of its fields turned by itself, all of them such as may be.
func turned(s api.Style) (l []api.Style) {
	for i := range 10 {
		x := s
		flags := []*bool{&x.Bold, &x.Faint, &x.Italic, &x.Under, &x.Blink, &x.Inverse, &x.Hidden, &x.Struck}
		switch i {
		case 8:
			x.Fg = (s.Fg + 2) % 256
		case 9:
			x.Bg = (s.Bg + 2) % 256
		default:
			*flags[i] = !*flags[i]
		}
		l = append(l, x)
	}
	return l
}

// P15.1: one cell that may not be, at each place, makes that the grid may not be.
func TestMayCells(t *testing.T) {
	for _, g := range badGrids() {
		if May(g) {
			t.Errorf("May(%d x %d %s)", g.Cols, g.Rows, pictureOf(g))
		}
	}
	for _, c := range badCells() {
		g, _ := New(3, 3, plain())
		for at := range g.Cells {
			for behind := at; behind < len(g.Cells); behind++ {
				h := another(g)
				// Each of a run of them, too: those behind the first one are as the one ahead.
				for i := at; i <= behind; i++ {
					h.Cells[i] = c
				}
				if May(h) {
					t.Fatalf("a grid with %v may be", c)
				}
			}
		}
	}
}

// rowsOfMarks tells each row of so many of the marks.
func rowsOfMarks(marks string, count int, f func(picture string)) {
	row := make([]byte, count)
	var lay func(at int)
	lay = func(at int) {
		if at == count {
			f(string(row))
			return
		}
		for _, mark := range []byte(marks) {
			row[at] = mark
			lay(at + 1)
		}
	}
	lay(0)
}

// P15.1: all short rows, by themselves and as grids of several rows, held against the words read slowly.
func TestMayAllRows(t *testing.T) {
	found := 0
	for count := 1; count <= 6; count++ {
		rowsOfMarks(".W-X=", count, func(picture string) {
			cells := cellsOf(picture)
			for cols := 1; cols <= count; cols++ {
				if count%cols != 0 {
					continue
				}
				g := api.Grid{Cols: cols, Rows: count / cols, Cells: cells}
				want := slowMay(g)
				if May(g) != want {
					t.Fatalf("May(%d x %d %s) = %v", g.Cols, g.Rows, picture, !want)
				}
				if want {
					found++
				}
			}
		})
	}
	if found < 100 {
		t.Errorf("only %d of them may be", found)
	}
}

// turnedCells is c with each of its fields turned by itself.
func turnedCells(c api.Cell) (l []api.Cell) {
	for i := range 5 {
		x := c
		switch i {
		case 0:
			x.Char++
		case 1:
			x.Wide++
		default:
			x.Marks[i-2]++
		}
		l = append(l, x)
	}
	for _, s := range turned(c.Style) {
		x := c
		x.Style = s
		l = append(l, x)
	}
	return l
}

func checkSame(t *testing.T, g, h api.Grid, want bool) {
	t.Helper()
	if Same(g, h) != want || Same(h, g) != want {
		t.Errorf("Same(%v, %v) = %v", g, h, !want)
	}
}

// P15.1: Same is of all fields of all cells, and of both sides, whether the grids may be or not.
func TestSame(t *testing.T) {
	g := gridOf("aW-/B.X")
	checkSame(t, g, g, true)
	checkSame(t, g, gridOf("aW-/B.X"), true)
	for at := range g.Cells {
		for _, c := range turnedCells(g.Cells[at]) {
			h := gridOf("aW-/B.X")
			h.Cells[at] = c
			checkSame(t, g, h, false)
			checkSame(t, h, h, true)
		}
	}
	turnedAbout := g
	turnedAbout.Cols, turnedAbout.Rows = g.Rows, g.Cols
	checkSame(t, g, turnedAbout, false)
	for _, d := range []int{-1, 1, math.MinInt, math.MaxInt} {
		wider, higher := g, g
		wider.Cols += d
		higher.Rows += d
		checkSame(t, g, wider, false)
		checkSame(t, g, higher, false)
	}
	for count := range g.Cells {
		fewer := g
		fewer.Cells = g.Cells[:count]
		checkSame(t, g, fewer, false)
	}
	checkSame(t, api.Grid{}, api.Grid{}, true)
	checkSame(t, api.Grid{}, api.Grid{Cells: []api.Cell{}}, true)
	checkSame(t, api.Grid{}, api.Grid{Cells: []api.Cell{{}}}, false)
	checkSame(t, api.Grid{Cols: 3, Rows: -1}, api.Grid{Cols: 3, Rows: -1, Cells: cellsOf("abc")[:0]}, true)
	checkSame(t, api.Grid{Cols: 3}, api.Grid{Rows: 3}, false)
	checkSame(t, api.Grid{}, api.Grid{Cols: 1}, false)
	for i, g := range badGrids() {
		for k, h := range badGrids() {
			if Same(g, h) != equal(g, h) {
				t.Errorf("Same of %d and %d = %v", i, k, !equal(g, h))
			}
		}
	}
}

// P15.1, P15.2, P15.3: with a grid or a style that may not be each call is ErrArg.
func TestBad(t *testing.T) {
	calls := []struct {
		name string
		call func(g api.Grid, s api.Style) (api.Grid, api.Errno)
	}{
		{"Write", func(g api.Grid, s api.Style) (api.Grid, api.Errno) { return Write(g, 0, 0, s) }},
		{"Write", func(g api.Grid, s api.Style) (api.Grid, api.Errno) { return Write(g, 0, 0, s, cellsOf("ab")...) }},
		{"Erase", func(g api.Grid, s api.Style) (api.Grid, api.Errno) { return Erase(g, 0, 0, 0, s) }},
		{"Erase", func(g api.Grid, s api.Style) (api.Grid, api.Errno) { return Erase(g, 0, 0, 1, s) }},
		{"Shift", func(g api.Grid, s api.Style) (api.Grid, api.Errno) { return Shift(g, 0, 0, 0, s) }},
		{"Shift", func(g api.Grid, s api.Style) (api.Grid, api.Errno) { return Shift(g, 0, 0, 1, s) }},
		{"Scroll", func(g api.Grid, s api.Style) (api.Grid, api.Errno) { return Scroll(g, 0, 0, 0, s) }},
		{"Scroll", func(g api.Grid, s api.Style) (api.Grid, api.Errno) { return Scroll(g, 0, 0, 1, s) }},
		{"Resize", func(g api.Grid, s api.Style) (api.Grid, api.Errno) { return Resize(g, 1, 1, s) }},
		{"Resize", func(g api.Grid, s api.Style) (api.Grid, api.Errno) { return Resize(g, 512, 512, s) }},
	}
	for _, c := range calls {
		for _, g := range badGrids() {
			h, e := c.call(g, plain())
			checkPicture(t, c.name+" "+pictureOf(g), h, e, "")
		}
		for _, s := range badStyles() {
			h, e := c.call(gridOf("ab/cd"), s)
			checkPicture(t, c.name, h, e, "")
			h, e = c.call(api.Grid{}, s)
			checkPicture(t, c.name, h, e, "")
		}
		for _, s := range goodStyles() {
			h, e := c.call(gridOf("ab/cd"), s)
			if e != api.OK || !May(h) {
				t.Errorf("%s with %v = %d", c.name, s, e)
			}
		}
	}
}
