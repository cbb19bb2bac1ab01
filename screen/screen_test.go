package screen

import (
	"math"
	"reflect"
	"slices"
	"strconv"
	"strings"
	"testing"

	"wayfarer/api"
	"wayfarer/cell"
)

// noise is numbers that look like chance and are always the same ones.
type noise uint64

func (n *noise) next() uint64 {
	*n = *n*6364136223846793005 + 1442695040888963407
	return uint64(*n >> 32)
}

func (n *noise) below(count int) int {
	return int(n.next() % uint64(count))
}

func pick[T any](n *noise, l []T) T {
	return l[n.below(len(l))]
}

// Styles: plain; the one that most tests print in, with a ground of its own; one whose blanks are those of the plain one.
func plain() api.Style  { return api.Style{Fg: -1, Bg: -1} }
func ground() api.Style { return api.Style{Fg: 1, Bg: 4, Bold: true} }
func under() api.Style  { return api.Style{Fg: -1, Bg: -1, Under: true} }

// wide is a character of the width 2.
const wide = 0x4e2d

// marks is what stands for a cell in a picture.
const marks = ".abcdefghixyzW-123M_ABCDXYZ=N"

// cellOf is the cell that a mark stands for. Of the plain style: a dot is a blank, small letters are themselves, 1, 2 and 3 an a with so many marks, W and - the halves of a wide one, M its first half with a mark. Of the style ground: _ is a blank, A, B, C, D, Y, Z are the small letters, X and = the halves of a wide one, N its first half with a mark.
func cellOf(mark byte) api.Cell {
	switch mark {
	case '.':
		return api.Cell{Char: 32, Wide: 1, Style: plain()}
	case '1':
		return api.Cell{Char: 'a', Marks: [3]rune{0x301}, Wide: 1, Style: plain()}
	case '2':
		return api.Cell{Char: 'a', Marks: [3]rune{0x301, 0x302}, Wide: 1, Style: plain()}
	case '3':
		return api.Cell{Char: 'a', Marks: [3]rune{0x301, 0x302, 0x303}, Wide: 1, Style: plain()}
	case 'W':
		return api.Cell{Char: wide, Wide: 2, Style: plain()}
	case 'M':
		return api.Cell{Char: wide, Marks: [3]rune{0x301}, Wide: 2, Style: plain()}
	case '-':
		return api.Cell{Style: plain()}
	case '_':
		return api.Cell{Char: 32, Wide: 1, Style: api.Style{Fg: -1, Bg: 4}}
	case 'A', 'B', 'C', 'D', 'Y', 'Z':
		return api.Cell{Char: rune(mark - 'A' + 'a'), Wide: 1, Style: ground()}
	case 'X':
		return api.Cell{Char: wide, Wide: 2, Style: ground()}
	case 'N':
		return api.Cell{Char: wide, Marks: [3]rune{0x301}, Wide: 2, Style: ground()}
	case '=':
		return api.Cell{Style: ground()}
	}
	return api.Cell{Char: rune(mark), Wide: 1, Style: plain()}
}

// gridOf is the grid of a picture, whose rows are told apart by /.
func gridOf(picture string) api.Grid {
	rows := strings.Split(picture, "/")
	g := api.Grid{Cols: len(rows[0]), Rows: len(rows)}
	for _, row := range rows {
		if len(row) != g.Cols {
			panic(picture + " has rows of unlike lengths")
		}
		for _, mark := range []byte(row) {
			g.Cells = append(g.Cells, cellOf(mark))
		}
	}
	return g
}

// pictureOf is the picture of a grid; ? stands for a cell that has no mark.
func pictureOf(g api.Grid) string {
	var b strings.Builder
	for i, c := range g.Cells {
		if i > 0 && g.Cols > 0 && i%g.Cols == 0 {
			b.WriteByte('/')
		}
		mark := byte('?')
		for _, m := range []byte(marks) {
			if cellOf(m) == c {
				mark = m
			}
		}
		b.WriteByte(mark)
	}
	return b.String()
}

// screenOf is a screen as a text tells it, with a style, a title and a kept cursor that no new one has.
func screenOf(text string) api.Screen {
	picture, rest, _ := strings.Cut(text, " ")
	g := gridOf(picture)
	s := api.Screen{Grid: g, Style: ground(), Bottom: g.Rows - 1, Tabs: slowTabs(g.Cols), Wrap: true, Visible: true, Arrows: true, Title: []rune{'t', 0, math.MaxInt32}}
	s.Saved = api.Saved{Row: g.Rows - 1, Col: g.Cols - 1, Pend: true, Origin: true, Style: under()}
	return become(s, "= "+rest)
}

// become is s, changed as a text tells it: a picture, or = for the one that there is; the cursor as row,col with a + if it pends; the rows that scroll as top-bottom; tabulators behind a t; modes.
func become(s api.Screen, text string) api.Screen {
	s = apart(s)
	for i, word := range strings.Fields(text) {
		switch {
		case i == 0 && word == "=":
		case i == 0:
			s.Grid = gridOf(word)
		case word == "nowrap":
			s.Wrap = false
		case word == "wrap":
			s.Wrap = true
		case word == "insert":
			s.Insert = true
		case word == "origin":
			s.Origin = true
		case word == "noorigin":
			s.Origin = false
		case word == "plain":
			s.Style = plain()
		case word == "under":
			s.Style = under()
		case word[0] == 't':
			s.Tabs = numbersOf(word[1:], ",")
		case strings.Contains(word, "-"):
			l := numbersOf(word, "-")
			s.Top, s.Bottom = l[0], l[1]
		default:
			l := numbersOf(strings.TrimSuffix(word, "+"), ",")
			s.Row, s.Col, s.Pend = l[0], l[1], strings.HasSuffix(word, "+")
		}
	}
	return s
}

func numbersOf(text, between string) (l []int) {
	for _, word := range strings.Split(text, between) {
		if word == "" {
			continue
		}
		n, err := strconv.Atoi(word)
		if err != nil {
			panic(err)
		}
		l = append(l, n)
	}
	return l
}

// tellingOf is a screen as a text, for when a test fails.
func tellingOf(s api.Screen) string {
	text := pictureOf(s.Grid) + " " + strconv.Itoa(s.Row) + "," + strconv.Itoa(s.Col)
	if s.Pend {
		text += "+"
	}
	text += " " + strconv.Itoa(s.Top) + "-" + strconv.Itoa(s.Bottom)
	for _, mode := range []struct {
		name string
		on   bool
	}{{"wrap", s.Wrap}, {"origin", s.Origin}, {"insert", s.Insert}, {"arrows", s.Arrows}, {"paste", s.Paste}, {"visible", s.Visible}, {"alt", s.Alt}} {
		if mode.on {
			text += " " + mode.name
		}
	}
	for _, col := range s.Tabs {
		text += " t" + strconv.Itoa(col)
	}
	text += " kept " + strconv.Itoa(s.Saved.Row) + "," + strconv.Itoa(s.Saved.Col)
	if s.Saved.Pend {
		text += "+"
	}
	return text + " main " + pictureOf(s.Main)
}

// equal is whether screens are the same, by the library's own comparison; lists that are nil and lists without elements are.
func equal(s, t api.Screen) bool {
	return reflect.DeepEqual(withNil(s), withNil(t))
}

// withNil is s with nil for each list without elements.
func withNil(s api.Screen) api.Screen {
	for _, l := range []*[]api.Cell{&s.Grid.Cells, &s.Main.Cells} {
		if len(*l) == 0 {
			*l = nil
		}
	}
	if len(s.Tabs) == 0 {
		s.Tabs = nil
	}
	if len(s.Title) == 0 {
		s.Title = nil
	}
	return s
}

// check holds what a call answered against what it should.
func check(t *testing.T, what string, got api.Screen, e api.Errno, want api.Screen, wantE api.Errno) {
	t.Helper()
	if e != wantE || !equal(got, want) {
		t.Fatalf("%s\n= %s, %d\nnot %s, %d\n(%+v\nnot %+v)", what, tellingOf(got), e, tellingOf(want), wantE, withNil(got), withNil(want))
	}
	if e == api.OK && !slowMay(got) {
		t.Fatalf("%s\n= %s, which may not be", what, tellingOf(got))
	}
}

// checkDeed does d to the screen of a text, which is to become what another one tells, and nothing else.
func checkDeed(t *testing.T, from string, d deed, want string) {
	t.Helper()
	s := screenOf(from)
	if !slowMay(s) {
		t.Fatalf("%s may not be", from)
	}
	got, e := d.do(s)
	check(t, d.String()+" of "+from, got, e, become(s, want), api.OK)
}

// checkDeeds does several, one behind the other.
func checkDeeds(t *testing.T, s api.Screen, deeds []deed, want api.Screen) api.Screen {
	t.Helper()
	what := tellingOf(s)
	for _, d := range deeds {
		var e api.Errno
		what += " " + d.String()
		if s, e = d.do(s); e != api.OK {
			t.Fatalf("%s = %d", what, e)
		}
	}
	check(t, what, s, api.OK, want, api.OK)
	return s
}

// prints is deeds that print a text; W is the wide character.
func prints(text string) (l []deed) {
	for _, c := range text {
		if c == 'W' {
			c = wide
		}
		l = append(l, printOf(c))
	}
	return l
}

// fresh is a new screen.
func fresh(t *testing.T, cols, rows int) api.Screen {
	t.Helper()
	s, e := New(cols, rows)
	if e != api.OK {
		t.Fatalf("New(%d, %d) = %d", cols, rows, e)
	}
	return s
}

// P16.2, P16.3, P16.4, P16.8: the examples of the chapter.
func TestExamples(t *testing.T) {
	s := fresh(t, 3, 2)
	checkDeeds(t, s, prints("abcd"), become(s, "abc/d.. 1,1"))
	checkDeeds(t, s, prints("aWb"), become(s, "aW-/b.. 1,1"))
	rows := become(s, "a../b..")
	checkDeeds(t, rows, []deed{placeOf(9, 9)}, become(rows, "= 1,2"))
	checkDeeds(t, rows, []deed{placeOf(9, 9), controlOf(10)}, become(rows, "b../... 1,2"))
	tabbed := checkDeeds(t, s, []deed{placeOf(0, 2), tabOf(0)}, become(s, "= 0,2 t2"))
	checkDeeds(t, tabbed, []deed{controlOf(13), controlOf(9)}, become(s, "= 0,2 t2"))
}

// What the pictures stand for is what the layer below makes, and a text tells a screen that may be.
func TestMarks(t *testing.T) {
	for _, mark := range []byte(marks) {
		if !cell.May(cellOf(mark)) {
			t.Errorf("%c may not be", mark)
		}
	}
	if cellOf('.') != cell.Blank(plain()) || cellOf('_') != cell.Blank(ground()) || cellOf('.') != cell.Blank(under()) {
		t.Error("blanks are others")
	}
	if !slices.Equal(gridOf("W-").Cells, cell.Put(wide, plain())) || !slices.Equal(gridOf("X=").Cells, cell.Put(wide, ground())) || cellOf('A') != cell.Put('a', ground())[0] || cellOf('Y') != cell.Put('y', ground())[0] {
		t.Error("characters are others")
	}
	s := screenOf("abc/W-. 1,2+ 0-0 nowrap insert t0,2")
	if s.Row != 1 || s.Col != 2 || !s.Pend || s.Top != 0 || s.Bottom != 0 || s.Wrap || !s.Insert || !slices.Equal(s.Tabs, []int{0, 2}) || !slowMay(s) {
		t.Errorf("%s", tellingOf(s))
	}
}

// P16.1: New at and past the bounds of each side, held against the words and against a screen by hand.
func TestNew(t *testing.T) {
	sides := []int{math.MinInt, -1 << 32, -512, -1, 0, 1, 2, 8, 9, 16, 17, 80, 511, 512, 513, 514, 1024, 1 << 16, 1<<32 + 1, math.MaxInt}
	for _, cols := range sides {
		for _, rows := range sides {
			got, e := New(cols, rows)
			if may := cols >= 1 && cols <= 512 && rows >= 1 && rows <= 512; may != (e == api.OK) {
				t.Fatalf("New(%d, %d) = %d", cols, rows, e)
			}
			if cols > 100 && rows > 100 && cols+rows != 1024 {
				continue
			}
			want, wantE := slowNew(cols, rows)
			check(t, "New", got, e, want, wantE)
		}
	}
	got, e := New(2, 2)
	check(t, "New", got, e, api.Screen{
		Grid:  api.Grid{Cols: 2, Rows: 2, Cells: []api.Cell{cellOf('.'), cellOf('.'), cellOf('.'), cellOf('.')}},
		Style: plain(), Bottom: 1, Wrap: true, Visible: true, Saved: api.Saved{Style: plain()},
	}, api.OK)
}

// P16.1: where the tabulators of a new screen stand.
func TestNewTabs(t *testing.T) {
	for _, c := range []struct {
		cols int
		want []int
	}{{1, nil}, {7, nil}, {8, nil}, {9, []int{8}}, {16, []int{8}}, {17, []int{8, 16}}, {24, []int{8, 16}}, {25, []int{8, 16, 24}}, {80, []int{8, 16, 24, 32, 40, 48, 56, 64, 72}}} {
		if s := fresh(t, c.cols, 1); !slices.Equal(s.Tabs, c.want) {
			t.Errorf("New(%d, 1) has the tabulators %d", c.cols, s.Tabs)
		}
	}
	if s := fresh(t, 512, 1); len(s.Tabs) != 63 || s.Tabs[62] != 504 {
		t.Errorf("New(512, 1) has the tabulators %d", s.Tabs)
	}
}

// change is a screen changed in one thing alone, and whether it may be then.
type change struct {
	name string
	do   func(s *api.Screen)
	may  bool
}

// placeChanges is numbers at the edges and past them, of a screen of 3 rows and 4 columns, with the cursor in the midst.
func placeChanges() (l []change) {
	for _, n := range []int{math.MinInt, -1 << 32, -1, 0, 1, 2, 3, 4, 511, 512, 1 << 32, 1<<32 + 1, math.MaxInt} {
		at := " " + strconv.Itoa(n)
		row, col := n >= 0 && n < 3, n >= 0 && n < 4
		l = append(l,
			change{"Row" + at, func(s *api.Screen) { s.Row = n }, row},
			change{"Col" + at, func(s *api.Screen) { s.Col = n }, col},
			change{"Top" + at, func(s *api.Screen) { s.Top = n }, row},
			change{"Bottom" + at, func(s *api.Screen) { s.Bottom = n }, row},
			change{"Saved.Row" + at, func(s *api.Screen) { s.Saved.Row = n }, row},
			change{"Saved.Col" + at, func(s *api.Screen) { s.Saved.Col = n }, col},
			change{"Pend, Col" + at, func(s *api.Screen) { s.Pend, s.Col = true, n }, n == 3},
			change{"Saved.Pend, Saved.Col" + at, func(s *api.Screen) { s.Saved.Pend, s.Saved.Col = true, n }, n == 3},
			change{"Tabs" + at, func(s *api.Screen) { s.Tabs = []int{n} }, col},
			change{"Style.Fg" + at, func(s *api.Screen) { s.Style.Fg = n }, n >= -1 && n <= 255},
			change{"Style.Bg" + at, func(s *api.Screen) { s.Style.Bg = n }, n >= -1 && n <= 255},
			change{"Saved.Style.Fg" + at, func(s *api.Screen) { s.Saved.Style.Fg = n }, n >= -1 && n <= 255},
			change{"Saved.Style.Bg" + at, func(s *api.Screen) { s.Saved.Style.Bg = n }, n >= -1 && n <= 255},
			change{"Grid.Cols" + at, func(s *api.Screen) { s.Grid.Cols = n }, n == 4},
			change{"Grid.Rows" + at, func(s *api.Screen) { s.Grid.Rows = n }, n == 3},
			change{"Main.Cols" + at, func(s *api.Screen) { s.Main.Cols = n }, n == 0},
			change{"Main.Rows" + at, func(s *api.Screen) { s.Main.Rows = n }, n == 0},
		)
		for m := -1; m <= 3; m++ {
			l = append(l, change{"Top and Bottom " + strconv.Itoa(m) + at, func(s *api.Screen) { s.Top, s.Bottom = m, n }, m >= 0 && m <= n && n < 3})
		}
	}
	for _, n := range []int{-3, -2, -1, 254, 255, 256, 257} {
		at := " " + strconv.Itoa(n)
		l = append(l,
			change{"Style.Fg" + at, func(s *api.Screen) { s.Style.Fg = n }, n >= -1 && n <= 255},
			change{"Style.Bg" + at, func(s *api.Screen) { s.Style.Bg = n }, n >= -1 && n <= 255},
			change{"Saved.Style.Fg" + at, func(s *api.Screen) { s.Saved.Style.Fg = n }, n >= -1 && n <= 255},
			change{"Saved.Style.Bg" + at, func(s *api.Screen) { s.Saved.Style.Bg = n }, n >= -1 && n <= 255},
		)
	}
	return l
}

// otherChanges is the other things of such a screen.
func otherChanges() []change {
	withMain := func(g api.Grid) func(s *api.Screen) {
		return func(s *api.Screen) { s.Alt, s.Main = true, g }
	}
	withTitle := func(title ...rune) func(s *api.Screen) {
		return func(s *api.Screen) { s.Title = title }
	}
	badEnd := make([]rune, 256)
	badEnd[255] = -1
	return []change{
		{"nothing", func(s *api.Screen) {}, true},
		{"the grid: a half", func(s *api.Screen) { s.Grid = gridOf("abcd/eW../ghia") }, false},
		{"the grid: the other half", func(s *api.Screen) { s.Grid = gridOf("-bcd/efgh/iabc") }, false},
		{"the grid: halves of two rows", func(s *api.Screen) { s.Grid = gridOf("abcW/-fgh/iabc") }, false},
		{"the grid: halves of two styles", func(s *api.Screen) { s.Grid = gridOf("abW=/efgh/iabc") }, false},
		{"the grid: a cell that may not be", func(s *api.Screen) { s.Grid.Cells[11].Char = 10 }, false},
		{"the grid: a style that may not be", func(s *api.Screen) { s.Grid.Cells[0].Style.Fg = 256 }, false},
		{"the grid: no cells", func(s *api.Screen) { s.Grid.Cells = nil }, false},
		{"the grid: one cell less", func(s *api.Screen) { s.Grid.Cells = s.Grid.Cells[:11] }, false},
		{"the grid: one cell more", func(s *api.Screen) { s.Grid.Cells = append(s.Grid.Cells, cellOf('.')) }, false},
		{"the grid: none", func(s *api.Screen) { s.Grid = api.Grid{} }, false},
		{"the grid: other cells", func(s *api.Screen) { s.Grid = gridOf("W-X=/1M-3/N=.A") }, true},
		{"no tabulators", func(s *api.Screen) { s.Tabs = nil }, true},
		{"no tabulators, in a list", func(s *api.Screen) { s.Tabs = []int{} }, true},
		{"tabulators at all columns", func(s *api.Screen) { s.Tabs = []int{0, 1, 2, 3} }, true},
		{"tabulators that do not rise", func(s *api.Screen) { s.Tabs = []int{0, 2, 1} }, false},
		{"tabulators that fall", func(s *api.Screen) { s.Tabs = []int{3, 0} }, false},
		{"a tabulator twice", func(s *api.Screen) { s.Tabs = []int{1, 1} }, false},
		{"a tabulator twice, at the end", func(s *api.Screen) { s.Tabs = []int{0, 2, 3, 3} }, false},
		{"the tabulator 0 twice", func(s *api.Screen) { s.Tabs = []int{0, 0} }, false},
		{"a tabulator below 0, ahead", func(s *api.Screen) { s.Tabs = []int{-1, 0} }, false},
		{"a tabulator past the last column, behind", func(s *api.Screen) { s.Tabs = []int{0, 3, 4} }, false},
		{"Alt without Main", func(s *api.Screen) { s.Alt = true }, false},
		{"Main without Alt", func(s *api.Screen) { s.Main = gridOf("abcd/efgh/iabc") }, false},
		{"Main of cells alone", func(s *api.Screen) { s.Main.Cells = []api.Cell{{}} }, false},
		{"Main of no cells, in a list", func(s *api.Screen) { s.Main.Cells = []api.Cell{} }, true},
		{"Main of a size alone", func(s *api.Screen) { s.Main.Cols, s.Main.Rows = 4, 3 }, false},
		{"Alt and Main", withMain(gridOf("abcd/eW-h/X=..")), true},
		{"Alt and Main of more columns", withMain(gridOf("abcde/abcde/abcde")), false},
		{"Alt and Main of fewer rows", withMain(gridOf("abcd/abcd")), false},
		{"Alt and Main of more rows", withMain(gridOf("abcd/abcd/abcd/abcd")), false},
		{"Alt and Main turned about", withMain(gridOf("abc/abc/abc/abc")), false},
		{"Alt and Main of as many cells", withMain(gridOf("abcdef/abcdef")), false},
		{"Alt and Main with a half", withMain(gridOf("abcW/efgh/iabc")), false},
		{"Alt and Main with the other half", withMain(gridOf("abcd/-fgh/iabc")), false},
		{"Alt and Main of no cells", withMain(api.Grid{Cols: 4, Rows: 3}), false},
		{"Alt and Main of one cell less", withMain(api.Grid{Cols: 4, Rows: 3, Cells: gridOf("abcdefghiab").Cells}), false},
		{"Alt and Main with a cell that may not be", withMain(api.Grid{Cols: 4, Rows: 3, Cells: make([]api.Cell, 12)}), false},
		{"no title", withTitle(), true},
		{"a title of 1", withTitle(0), true},
		{"a title of 255", withTitle(make([]rune, 255)...), true},
		{"a title of 256", withTitle(make([]rune, 256)...), true},
		{"a title of 257", withTitle(make([]rune, 257)...), false},
		{"a title of 1000", withTitle(make([]rune, 1000)...), false},
		{"a title of the greatest", withTitle(math.MaxInt32, 0x110000, 0xd800), true},
		{"a title with -1", withTitle(-1), false},
		{"a title with -1 behind", withTitle('a', 'b', -1), false},
		{"a title with -1 ahead", withTitle(-1, 'a'), false},
		{"a title with -1 at its end", withTitle(badEnd...), false},
		{"a title with the least", withTitle('a', math.MinInt32, 'b'), false},
		{"Origin", func(s *api.Screen) { s.Origin = true }, true},
		{"Saved.Origin", func(s *api.Screen) { s.Saved.Origin = true }, true},
		{"modes", func(s *api.Screen) { s.Wrap, s.Insert, s.Arrows, s.Paste, s.Visible = false, true, true, true, false }, true},
		{"all zero", func(s *api.Screen) { *s = api.Screen{} }, false},
	}
}

// middle is a screen of 3 rows and 4 columns that may be, with the cursor and the kept one in the midst.
func middle() api.Screen {
	s := screenOf("abcd/eW-f/X=.1 1,1 0-2 t1,3")
	s.Saved = api.Saved{Row: 1, Col: 2, Style: under()}
	return s
}

func changes() []change {
	return append(placeChanges(), otherChanges()...)
}

// P16.1: May of screens that differ in one thing alone from one that may be.
func TestMay(t *testing.T) {
	bad := 0
	for _, c := range changes() {
		s := middle()
		c.do(&s)
		if May(s) != c.may || slowMay(s) != c.may {
			t.Errorf("%s: %v, %v read slowly", c.name, May(s), slowMay(s))
		}
		if !c.may {
			bad++
		}
	}
	if bad < 100 {
		t.Errorf("only %d of them may not be", bad)
	}
}

// P16.1: the cursor at each place of the least and of the greatest screen.
func TestMayEdges(t *testing.T) {
	for _, c := range []struct{ cols, rows int }{{1, 1}, {1, 2}, {2, 1}, {512, 1}, {1, 512}, {512, 512}} {
		s := fresh(t, c.cols, c.rows)
		s.Row, s.Col, s.Pend, s.Saved.Row, s.Saved.Col, s.Saved.Pend = c.rows-1, c.cols-1, true, c.rows-1, c.cols-1, true
		s.Top = s.Bottom
		if !May(s) {
			t.Errorf("the last place of %d x %d may not be", c.cols, c.rows)
		}
		s.Col, s.Saved.Col = 0, 0
		if May(s) != (c.cols == 1) {
			t.Errorf("%d x %d pends at the column 0", c.cols, c.rows)
		}
	}
}

// turn turns the n-th number, bool or list of v, counted through all of it, and is whether there is one.
func turn(v reflect.Value, n *int) bool {
	switch v.Kind() {
	case reflect.Struct:
		for i := range v.NumField() {
			if turn(v.Field(i), n) {
				return true
			}
		}
		return false
	case reflect.Slice:
		// The list as a whole, at both of its ends.
		for _, by := range []int{-1, 1} {
			if *n--; *n == -1 {
				longer := reflect.Append(v, reflect.Zero(v.Type().Elem()))
				v.Set(longer.Slice(0, max(v.Len()+by, 0)))
				return true
			}
		}
		fallthrough
	case reflect.Array:
		for i := range v.Len() {
			if turn(v.Index(i), n) {
				return true
			}
		}
		return false
	}
	if *n--; *n != -1 {
		return false
	}
	switch {
	case v.Kind() == reflect.Bool:
		v.SetBool(!v.Bool())
	case v.CanUint():
		v.SetUint(v.Uint() + 1)
	default:
		v.SetInt(v.Int() + 1)
	}
	return true
}

func checkSame(t *testing.T, what string, s, u api.Screen, want bool) {
	t.Helper()
	if Same(s, u) != want || Same(u, s) != want {
		t.Errorf("%s: Same(%s, %s) = %v", what, tellingOf(s), tellingOf(u), !want)
	}
}

// P16.1: Same of screens that differ in one number, one bool or the end of one list alone, through all that a screen has.
func TestSame(t *testing.T) {
	whole := func() api.Screen {
		s := middle()
		s.Alt, s.Main = true, gridOf("12/W-")
		return s
	}
	checkSame(t, "alike", whole(), whole(), true)
	count := 0
	for {
		s, n := whole(), count
		if !turn(reflect.ValueOf(&s).Elem(), &n) {
			break
		}
		what := "turned " + strconv.Itoa(count)
		checkSame(t, what, whole(), s, false)
		checkSame(t, what, s, apart(s), true)
		count++
	}
	// 12 and 4 cells of 15 things each; 2 sides and 2 ends of each grid; 10 of a style, 2 of them; 13 numbers and bools; 4 and 3 of lists, with both their ends.
	if count < 16*15+8+20+13+5+5 {
		t.Errorf("only %d things were turned", count)
	}
}

// P16.1: Same of lists that are nil and without elements, of screens that may not be, of each two in which one thing was changed.
func TestSameOthers(t *testing.T) {
	empty := api.Screen{Grid: api.Grid{Cells: []api.Cell{}}, Tabs: []int{}, Main: api.Grid{Cells: []api.Cell{}}, Title: []rune{}}
	checkSame(t, "nil and empty", api.Screen{}, empty, true)
	s := screenOf("ab/cd 1,0")
	s.Tabs, s.Title, s.Main.Cells = nil, nil, nil
	u := apart(s)
	u.Tabs, u.Title, u.Main.Cells = []int{}, []rune{}, []api.Cell{}
	checkSame(t, "nil and empty", s, u, true)
	var l []api.Screen
	for _, c := range changes() {
		s := middle()
		c.do(&s)
		l = append(l, s)
	}
	for i, s := range l {
		for k, u := range l {
			if Same(s, u) != equal(s, u) {
				t.Errorf("Same of %d and %d = %v", i, k, !equal(s, u))
			}
		}
	}
}

// P16.2 to P16.8: each deed refuses a screen that may not be, whatever else it is handed.
func TestBad(t *testing.T) {
	deeds := append(someDeeds(4, 3), resizeOf(0, 0), resizeOf(4, 513))
	for _, c := range changes() {
		s := middle()
		c.do(&s)
		for _, d := range deeds {
			got, e := d.do(s)
			if !c.may {
				check(t, c.name+" "+d.String(), got, e, api.Screen{}, api.ErrArg)
				continue
			}
			checkSlow(t, s, d)
		}
	}
}
