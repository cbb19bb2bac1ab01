package model

import (
	"math"
	"reflect"
	"slices"
	"strconv"
	"strings"
	"testing"

	"wayfarer/api"
	"wayfarer/screen"
)

const (
	least    = math.MinInt
	greatest = math.MaxInt

	wide   = 0x4e2d // a character of the width 2
	face   = 0x1f600
	mark   = 0x301 // those of the width 0
	second = 0x302
	third  = 0xe0100
)

// noise is numbers that look like chance and are always the same ones.
type noise uint64

func (n *noise) next() uint64 {
	*n = *n*6364136223846793005 + 1442695040888963407
	return uint64(*n >> 32)
}

func (n *noise) below(count int) int {
	return int(n.next() % uint64(count))
}

func pick[T any](n *noise, l []T) T {
	return l[n.below(len(l))]
}

// bytesOf is a text as bytes: & is 27.
func bytesOf(text string) []byte {
	return []byte(strings.ReplaceAll(text, "&", "\x1b"))
}

// Styles: plain; one with a ground of its own; one whose blanks are those of the plain one.
func plain() api.Style  { return api.Style{Fg: -1, Bg: -1} }
func ground() api.Style { return api.Style{Fg: 1, Bg: 4, Bold: true} }
func under() api.Style  { return api.Style{Fg: -1, Bg: -1, Under: true} }

// marks is what stands for a cell in a picture.
const marks = ".abcdefghixyz13W-MF~,R_ABCDXYZ="

// cellOf is the cell that a sign stands for. Of the plain style: a dot is a blank, small letters are themselves, 1 and 3 an a with so many marks, W and - the halves of a wide one, M and F the first halves of one with a mark and of another one, a comma a blank with a mark, R the replacement. Of the style ground: _ is a blank, A, B, C, D, Y, Z are the small letters, X and = the halves of a wide one. Of the style under: ~ is a space.
func cellOf(sign byte) api.Cell {
	x := api.Cell{Char: rune(sign), Wide: 1, Style: plain()}
	switch sign {
	case '.':
		x.Char = 32
	case '1':
		x.Char, x.Marks = 'a', [3]rune{mark}
	case '3':
		x.Char, x.Marks = 'a', [3]rune{mark, second, third}
	case 'W':
		x.Char, x.Wide = wide, 2
	case 'M':
		x.Char, x.Wide, x.Marks = wide, 2, [3]rune{mark}
	case 'F':
		x.Char, x.Wide = face, 2
	case '-':
		x.Char, x.Wide = 0, 0
	case ',':
		x.Char, x.Marks = 32, [3]rune{mark}
	case 'R':
		x.Char = 0xfffd
	case '~':
		x.Char, x.Style = 32, under()
	case '_':
		x.Char, x.Style = 32, api.Style{Fg: -1, Bg: 4}
	case 'A', 'B', 'C', 'D', 'Y', 'Z':
		x.Char, x.Style = rune(sign-'A'+'a'), ground()
	case 'X':
		x.Char, x.Wide, x.Style = wide, 2, ground()
	case '=':
		x.Char, x.Wide, x.Style = 0, 0, ground()
	}
	return x
}

// gridOf is the grid of a picture, whose rows are told apart by /.
func gridOf(picture string) api.Grid {
	rows := strings.Split(picture, "/")
	g := api.Grid{Cols: len(rows[0]), Rows: len(rows)}
	for _, row := range rows {
		if len(row) != g.Cols {
			panic(picture + " has rows of unlike lengths")
		}
		for _, sign := range []byte(row) {
			g.Cells = append(g.Cells, cellOf(sign))
		}
	}
	return g
}

// pictureOf is the picture of a grid; ? stands for a cell that has no sign.
func pictureOf(g api.Grid) string {
	var b strings.Builder
	for i, x := range g.Cells {
		if i > 0 && g.Cols > 0 && i%g.Cols == 0 {
			b.WriteByte('/')
		}
		found := byte('?')
		for _, sign := range []byte(marks) {
			if cellOf(sign) == x {
				found = sign
			}
		}
		b.WriteByte(found)
	}
	return b.String()
}

// fresh is a new screen, by hand.
func fresh(cols, rows int) api.Screen {
	s := api.Screen{Grid: api.Grid{Cols: cols, Rows: rows}, Style: plain(), Bottom: rows - 1, Wrap: true, Visible: true, Saved: api.Saved{Style: plain()}}
	for range cols * rows {
		s.Grid.Cells = append(s.Grid.Cells, cellOf('.'))
	}
	for col := 8; col < cols; col += 8 {
		s.Tabs = append(s.Tabs, col)
	}
	return s
}

// become is s, changed as a text tells it: a picture, or = for the one that there is; the cursor as row,col with a + if it pends; the rows that scroll as top-bottom; modes; a style; the cursor kept.
func become(s api.Screen, text string) api.Screen {
	s = apart(s)
	for i, word := range strings.Fields(text) {
		switch {
		case i == 0 && word == "=":
		case i == 0:
			s.Grid = gridOf(word)
		case word == "keep":
			s.Saved = api.Saved{Row: s.Row, Col: s.Col, Pend: s.Pend, Origin: s.Origin, Style: s.Style}
		case isModeOf(&s, word):
		case strings.Contains(word, "-"):
			s.Top, s.Bottom = pairOf(word, "-")
		default:
			s.Row, s.Col = pairOf(strings.TrimSuffix(word, "+"), ",")
			s.Pend = strings.HasSuffix(word, "+")
		}
	}
	return s
}

// isModeOf turns the mode of a word on or off, or takes the style of it, if it names one.
func isModeOf(s *api.Screen, word string) bool {
	name, off := strings.CutPrefix(word, "no")
	modes := map[string]*bool{"wrap": &s.Wrap, "origin": &s.Origin, "insert": &s.Insert, "arrows": &s.Arrows, "paste": &s.Paste, "visible": &s.Visible}
	if mode := modes[name]; mode != nil {
		*mode = !off
		return true
	}
	styles := map[string]api.Style{"plain": plain(), "ground": ground(), "under": under()}
	style, found := styles[word]
	if found {
		s.Style = style
	}
	return found
}

func pairOf(text, between string) (int, int) {
	first, last, _ := strings.Cut(text, between)
	n, err := strconv.Atoi(first)
	m, err2 := strconv.Atoi(last)
	if err != nil || err2 != nil {
		panic(text)
	}
	return n, m
}

// screenOf is a screen as a text tells it, with tabulators, a title and a kept cursor that no new one has.
func screenOf(text string) api.Screen {
	picture, rest, _ := strings.Cut(text, " ")
	g := gridOf(picture)
	s := fresh(g.Cols, g.Rows)
	s.Grid, s.Arrows, s.Tabs, s.Title = g, true, []int{0}, []rune{'t', 0, math.MaxInt32}
	s.Saved = api.Saved{Row: g.Rows - 1, Col: g.Cols - 1, Pend: true, Origin: true, Style: under()}
	s = become(s, "= "+rest)
	if !screen.May(s) {
		panic(text + " may not be")
	}
	return s
}

// withMain is s with its other grid shown, the first one being that of a picture.
func withMain(s api.Screen, picture string) api.Screen {
	s = apart(s)
	s.Alt, s.Main = true, gridOf(picture)
	return s
}

// viewOf is the view of a screen of such a text, by hand.
func viewOf(text string) api.View {
	s := screenOf(text)
	return api.View{Grid: s.Grid, Row: s.Row, Col: s.Col, Visible: s.Visible, Title: s.Title}
}

// tellingOf is a screen as a text, for when a test fails.
func tellingOf(s api.Screen) string {
	g, main := pictureOf(s.Grid), pictureOf(s.Main)
	s.Grid.Cells, s.Main.Cells = nil, nil
	return g + " main " + main + " " + restOf(s)
}

// tellingOfView is a view likewise.
func tellingOfView(v api.View) string {
	g := pictureOf(v.Grid)
	v.Grid.Cells = nil
	return g + " " + restOf(v)
}

// restOf is all fields of a struct, each behind its name.
func restOf(x any) string {
	v := reflect.ValueOf(x)
	var b strings.Builder
	for i := range v.NumField() {
		name, field := v.Type().Field(i).Name, v.Field(i)
		switch field.Kind() {
		case reflect.Int:
			b.WriteString(name + ":" + strconv.FormatInt(field.Int(), 10) + " ")
		case reflect.Bool:
			b.WriteString(name + ":" + strconv.FormatBool(field.Bool()) + " ")
		case reflect.Slice:
			b.WriteString(name + ":" + strconv.Itoa(field.Len()) + " of them ")
		case reflect.Struct:
			b.WriteString(name + ":{" + restOf(field.Interface()) + "} ")
		}
	}
	return b.String()
}

// apart is s in memory of its own.
func apart(s api.Screen) api.Screen {
	s.Grid.Cells, s.Main.Cells = slices.Clone(s.Grid.Cells), slices.Clone(s.Main.Cells)
	s.Tabs, s.Title = slices.Clone(s.Tabs), slices.Clone(s.Title)
	return s
}

// apartView is v in memory of its own.
func apartView(v api.View) api.View {
	v.Grid.Cells, v.Title = slices.Clone(v.Grid.Cells), slices.Clone(v.Title)
	return v
}

// equal is whether screens are the same, by the library's own comparison; lists that are nil and lists without elements are.
func equal(s, t api.Screen) bool {
	return reflect.DeepEqual(withNil(s), withNil(t))
}

// equalViews is whether views are, likewise.
func equalViews(v, w api.View) bool {
	return reflect.DeepEqual(withNilView(v), withNilView(w))
}

func withNil(s api.Screen) api.Screen {
	s.Grid.Cells, s.Main.Cells = nilOf(s.Grid.Cells), nilOf(s.Main.Cells)
	s.Tabs, s.Title = nilOf(s.Tabs), nilOf(s.Title)
	return s
}

func withNilView(v api.View) api.View {
	v.Grid.Cells, v.Title = nilOf(v.Grid.Cells), nilOf(v.Title)
	return v
}

// nilOf is l, or nil for a list without elements.
func nilOf[T any](l []T) []T {
	if len(l) == 0 {
		return nil
	}
	return l
}

// of is the screen behind bytes of a text.
func of(t testing.TB, cols, rows int, text string) api.Screen {
	t.Helper()
	s, e := Of(cols, rows, bytesOf(text))
	if e != api.OK || !screen.May(s) {
		t.Fatalf("Of(%d, %d, %q) = %s, %d", cols, rows, text, tellingOf(s), e)
	}
	return s
}

// see is the view of a screen.
func see(t testing.TB, s api.Screen) api.View {
	t.Helper()
	v, e := See(s)
	if e != api.OK {
		t.Fatalf("See(%s) = %d", tellingOf(s), e)
	}
	return v
}

// seeOf is the view of the screen behind bytes of a text.
func seeOf(t testing.TB, cols, rows int, text string) api.View {
	t.Helper()
	return see(t, of(t, cols, rows, text))
}

// changed is a name, and what makes a screen one that differs.
type changed struct {
	name string
	by   func(s *api.Screen)
}

// brokenGrids is what makes a grid of at least 3 columns and 2 rows one that may not be.
func brokenGrids() map[string]func(g *api.Grid) {
	cell := func(at int, x api.Cell) func(g *api.Grid) {
		return func(g *api.Grid) {
			g.Cells = slices.Clone(g.Cells)
			g.Cells[at] = x
		}
	}
	return map[string]func(g *api.Grid){
		"zero":                    func(g *api.Grid) { *g = api.Grid{} },
		"no cells":                func(g *api.Grid) { g.Cells = nil },
		"one cell too few":        func(g *api.Grid) { g.Cells = g.Cells[:len(g.Cells)-1] },
		"one cell too many":       func(g *api.Grid) { g.Cells = append(slices.Clone(g.Cells), cellOf('a')) },
		"cols 0":                  func(g *api.Grid) { g.Cols = 0 },
		"rows 0":                  func(g *api.Grid) { g.Rows = 0 },
		"cols and rows below 0":   func(g *api.Grid) { g.Cols, g.Rows = -g.Cols, -g.Rows },
		"cols far":                func(g *api.Grid) { g.Cols = greatest },
		"rows far":                func(g *api.Grid) { g.Rows = greatest },
		"rows 1 << 32":            func(g *api.Grid) { g.Rows = 1 << 32 },
		"both least":              func(g *api.Grid) { g.Cols, g.Rows = least, least },
		"both far, no cells":      func(g *api.Grid) { *g = api.Grid{Cols: 1 << 32, Rows: 1 << 32} },
		"513 columns":             func(g *api.Grid) { *g = fresh(513, 1).Grid },
		"513 rows":                func(g *api.Grid) { *g = fresh(1, 513).Grid },
		"a zero cell":             cell(1, api.Cell{}),
		"a first half":            cell(2, cellOf('W')),
		"a second half":           cell(3, cellOf('-')),
		"Wide 3":                  cell(0, api.Cell{Char: 'a', Wide: 3, Style: plain()}),
		"a wide one as narrow":    cell(0, api.Cell{Char: wide, Wide: 1, Style: plain()}),
		"a control":               cell(0, api.Cell{Char: 10, Wide: 1, Style: plain()}),
		"a mark that is none":     cell(0, api.Cell{Char: 'a', Marks: [3]rune{'b'}, Wide: 1, Style: plain()}),
		"a mark behind no mark":   cell(0, api.Cell{Char: 'a', Marks: [3]rune{0, mark}, Wide: 1, Style: plain()}),
		"a style that may not be": cell(0, api.Cell{Char: 'a', Wide: 1, Style: api.Style{Fg: 256}}),
	}
}

// broken is what makes a screen of at least 3 columns and 2 rows, whose other grid is not shown, one that may not be.
func broken() []changed {
	l := []changed{
		{"zero", func(s *api.Screen) { *s = api.Screen{} }},
		{"row below 0", func(s *api.Screen) { s.Row = -1 }},
		{"row below", func(s *api.Screen) { s.Row = s.Grid.Rows }},
		{"col below 0", func(s *api.Screen) { s.Col = -1 }},
		{"col behind", func(s *api.Screen) { s.Col = s.Grid.Cols }},
		{"row far", func(s *api.Screen) { s.Row = greatest }},
		{"col least", func(s *api.Screen) { s.Col = least }},
		{"pends at once", func(s *api.Screen) { s.Col, s.Pend = 0, true }},
		{"style", func(s *api.Screen) { s.Style.Fg = 256 }},
		{"style below", func(s *api.Screen) { s.Style.Bg = -2 }},
		{"top below 0", func(s *api.Screen) { s.Top = -1 }},
		{"top behind bottom", func(s *api.Screen) { s.Top, s.Bottom = 1, 0 }},
		{"bottom behind", func(s *api.Screen) { s.Bottom = s.Grid.Rows }},
		{"bottom below 0", func(s *api.Screen) { s.Top, s.Bottom = -1, -1 }},
		{"tabulators that do not rise", func(s *api.Screen) { s.Tabs = []int{1, 1} }},
		{"a tabulator behind", func(s *api.Screen) { s.Tabs = []int{s.Grid.Cols} }},
		{"a tabulator below 0", func(s *api.Screen) { s.Tabs = []int{-1} }},
		{"saved row", func(s *api.Screen) { s.Saved.Row = s.Grid.Rows }},
		{"saved col", func(s *api.Screen) { s.Saved.Col = -1 }},
		{"saved pends", func(s *api.Screen) { s.Saved.Col, s.Saved.Pend = 0, true }},
		{"saved style", func(s *api.Screen) { s.Saved.Style.Fg = -2 }},
		{"a main grid that is not kept", func(s *api.Screen) { s.Main = gridOf("ab") }},
		{"main columns that are not kept", func(s *api.Screen) { s.Main.Cols = 1 }},
		{"no main grid", func(s *api.Screen) { s.Alt = true }},
		{"a main grid of another size", func(s *api.Screen) { s.Alt, s.Main = true, gridOf("ab") }},
		{"a main grid that may not be", func(s *api.Screen) { *s = withMain(*s, pictureOf(s.Grid)); s.Main.Cells[0] = api.Cell{} }},
		{"a long title", func(s *api.Screen) { s.Title = make([]rune, 257) }},
		{"a title below 0", func(s *api.Screen) { s.Title = []rune{'a', -1} }},
	}
	for name, by := range brokenGrids() {
		l = append(l, changed{"grid: " + name, func(s *api.Screen) { by(&s.Grid) }})
	}
	return l
}
