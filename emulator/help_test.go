package emulator

import (
	"math"
	"reflect"
	"slices"
	"strconv"
	"strings"
	"testing"

	"wayfarer/api"
	"wayfarer/screen"
)

const (
	least    = math.MinInt
	greatest = math.MaxInt

	wide = 0x4e2d // a character of the width 2
	mark = 0x301  // one of the width 0
)

// noise is numbers that look like chance and are always the same ones.
type noise uint64

func (n *noise) next() uint64 {
	*n = *n*6364136223846793005 + 1442695040888963407
	return uint64(*n >> 32)
}

func (n *noise) below(count int) int {
	return int(n.next() % uint64(count))
}

func pick[T any](n *noise, l []T) T {
	return l[n.below(len(l))]
}

// Actions, each by what its kind names.
func printed(c rune) api.Action    { return api.Action{Kind: api.APrint, Char: c} }
func executed(c rune) api.Action   { return api.Action{Kind: api.AExec, Char: c} }
func esc(final byte) api.Action    { return api.Action{Kind: api.AEsc, Final: final} }
func osc(text ...rune) api.Action  { return api.Action{Kind: api.AOsc, Text: text} }
func oscOf(text string) api.Action { return osc([]rune(text)...) }

func csi(final byte, params ...int) api.Action {
	return api.Action{Kind: api.ACsi, Final: final, Params: params}
}

func question(final byte, params ...int) api.Action {
	return api.Action{Kind: api.ACsi, Private: '?', Final: final, Params: params}
}

// bytesOf is a text as bytes: & is 27.
func bytesOf(text string) []byte {
	return []byte(strings.ReplaceAll(text, "&", "\x1b"))
}

// Styles: plain; the one that screens by hand have, with a ground of its own; one whose blanks are those of the plain one.
func plain() api.Style  { return api.Style{Fg: -1, Bg: -1} }
func ground() api.Style { return api.Style{Fg: 1, Bg: 4, Bold: true} }
func under() api.Style  { return api.Style{Fg: -1, Bg: -1, Under: true} }

// marks is what stands for a cell in a picture.
const marks = ".abcdefghixyzW-1_ABCDXYZ="

// cellOf is the cell that a mark stands for. Of the plain style: a dot is a blank, small letters are themselves, 1 an a with a mark, W and - the halves of a wide one. Of the style ground: _ is a blank, A, B, C, D, Y, Z are the small letters, X and = the halves of a wide one.
func cellOf(c byte) api.Cell {
	switch c {
	case '.':
		return api.Cell{Char: 32, Wide: 1, Style: plain()}
	case '1':
		return api.Cell{Char: 'a', Marks: [3]rune{mark}, Wide: 1, Style: plain()}
	case 'W':
		return api.Cell{Char: wide, Wide: 2, Style: plain()}
	case '-':
		return api.Cell{Style: plain()}
	case '_':
		return api.Cell{Char: 32, Wide: 1, Style: api.Style{Fg: -1, Bg: 4}}
	case 'A', 'B', 'C', 'D', 'Y', 'Z':
		return api.Cell{Char: rune(c - 'A' + 'a'), Wide: 1, Style: ground()}
	case 'X':
		return api.Cell{Char: wide, Wide: 2, Style: ground()}
	case '=':
		return api.Cell{Style: ground()}
	}
	return api.Cell{Char: rune(c), Wide: 1, Style: plain()}
}

// gridOf is the grid of a picture, whose rows are told apart by /.
func gridOf(picture string) api.Grid {
	rows := strings.Split(picture, "/")
	g := api.Grid{Cols: len(rows[0]), Rows: len(rows)}
	for _, row := range rows {
		if len(row) != g.Cols {
			panic(picture + " has rows of unlike lengths")
		}
		for _, c := range []byte(row) {
			g.Cells = append(g.Cells, cellOf(c))
		}
	}
	return g
}

// pictureOf is the picture of a grid; ? stands for a cell that has no mark.
func pictureOf(g api.Grid) string {
	var b strings.Builder
	for i, x := range g.Cells {
		if i > 0 && g.Cols > 0 && i%g.Cols == 0 {
			b.WriteByte('/')
		}
		found := byte('?')
		for _, c := range []byte(marks) {
			if cellOf(c) == x {
				found = c
			}
		}
		b.WriteByte(found)
	}
	return b.String()
}

// fresh is a new screen.
func fresh(cols, rows int) api.Screen {
	s, e := screen.New(cols, rows)
	if e != api.OK {
		panic(e)
	}
	return s
}

// screenOf is a screen as a text tells it, with a style, a title and a kept cursor that no new one has.
func screenOf(text string) api.Screen {
	picture, rest, _ := strings.Cut(text, " ")
	g := gridOf(picture)
	s := fresh(g.Cols, g.Rows)
	s.Grid, s.Style, s.Arrows, s.Title = g, ground(), true, []rune{'t', 0, math.MaxInt32}
	s.Saved = api.Saved{Row: g.Rows - 1, Col: g.Cols - 1, Pend: true, Origin: true, Style: under()}
	s = become(s, "= "+rest)
	if !screen.May(s) {
		panic(text + " may not be")
	}
	return s
}

// become is s, changed as a text tells it: a picture, or = for the one that there is; the cursor as row,col with a + if it pends; the rows that scroll as top-bottom; tabulators behind a t; modes; the cursor kept, or back.
func become(s api.Screen, text string) api.Screen {
	s = apart(s)
	for i, word := range strings.Fields(text) {
		switch {
		case i == 0 && word == "=":
		case i == 0:
			s.Grid = gridOf(word)
		case word == "keep":
			s.Saved = api.Saved{Row: s.Row, Col: s.Col, Pend: s.Pend, Origin: s.Origin, Style: s.Style}
		case word == "back":
			s.Row, s.Col, s.Pend, s.Origin, s.Style = s.Saved.Row, s.Saved.Col, s.Saved.Pend, s.Saved.Origin, s.Saved.Style
		case become1(&s, word):
		case word[0] == 't':
			s.Tabs = numbersOf(word[1:], ",")
		case strings.Contains(word, "-"):
			l := numbersOf(word, "-")
			s.Top, s.Bottom = l[0], l[1]
		default:
			l := numbersOf(strings.TrimSuffix(word, "+"), ",")
			s.Row, s.Col, s.Pend = l[0], l[1], strings.HasSuffix(word, "+")
		}
	}
	return s
}

// become1 turns the mode of a word on or off, or takes the style of it, if it names one.
func become1(s *api.Screen, word string) bool {
	name, off := strings.CutPrefix(word, "no")
	modes := map[string]*bool{"wrap": &s.Wrap, "origin": &s.Origin, "insert": &s.Insert, "arrows": &s.Arrows, "paste": &s.Paste, "visible": &s.Visible}
	if mode := modes[name]; mode != nil {
		*mode = !off
		return true
	}
	styles := map[string]api.Style{"plain": plain(), "ground": ground(), "under": under()}
	style, found := styles[word]
	if found {
		s.Style = style
	}
	return found
}

func numbersOf(text, between string) (l []int) {
	for _, word := range strings.Split(text, between) {
		if word == "" {
			continue
		}
		n, err := strconv.Atoi(word)
		if err != nil {
			panic(err)
		}
		l = append(l, n)
	}
	return l
}

// tellingOf is a screen as a text, for when a test fails.
func tellingOf(s api.Screen) string {
	text := pictureOf(s.Grid) + " " + strconv.Itoa(s.Row) + "," + strconv.Itoa(s.Col)
	if s.Pend {
		text += "+"
	}
	text += " " + strconv.Itoa(s.Top) + "-" + strconv.Itoa(s.Bottom)
	for _, mode := range []struct {
		name string
		on   bool
	}{{"wrap", s.Wrap}, {"origin", s.Origin}, {"insert", s.Insert}, {"arrows", s.Arrows}, {"paste", s.Paste}, {"visible", s.Visible}, {"alt", s.Alt}} {
		if mode.on {
			text += " " + mode.name
		}
	}
	for _, col := range s.Tabs {
		text += " t" + strconv.Itoa(col)
	}
	text += " kept " + strconv.Itoa(s.Saved.Row) + "," + strconv.Itoa(s.Saved.Col)
	return text + " main " + pictureOf(s.Main) + " title " + strconv.Quote(string(s.Title))
}

// apart is s in memory of its own.
func apart(s api.Screen) api.Screen {
	s.Grid.Cells, s.Main.Cells = slices.Clone(s.Grid.Cells), slices.Clone(s.Main.Cells)
	s.Tabs, s.Title = slices.Clone(s.Tabs), slices.Clone(s.Title)
	return s
}

// equal is whether screens are the same, by the library's own comparison; lists that are nil and lists without elements are.
func equal(s, t api.Screen) bool {
	return reflect.DeepEqual(withNil(s), withNil(t))
}

// withNil is s with nil for each list without elements.
func withNil(s api.Screen) api.Screen {
	for _, l := range []*[]api.Cell{&s.Grid.Cells, &s.Main.Cells} {
		if len(*l) == 0 {
			*l = nil
		}
	}
	if len(s.Tabs) == 0 {
		s.Tabs = nil
	}
	if len(s.Title) == 0 {
		s.Title = nil
	}
	return s
}

// checkScreen holds a screen against what it should be, and to be one that may be.
func checkScreen(t *testing.T, what string, got, want api.Screen) {
	t.Helper()
	if !equal(got, want) {
		t.Fatalf("%s\n= %s\nnot %s\n(%+v, %+v\nnot %+v, %+v)", what, tellingOf(got), tellingOf(want), got.Style, got.Saved, want.Style, want.Saved)
	}
	if !screen.May(got) {
		t.Fatalf("%s\n= %s, which may not be", what, tellingOf(got))
	}
}

// checkDo does a to s, which is to become want, with a reply.
func checkDo(t *testing.T, s api.Screen, a api.Action, want api.Screen, reply string) {
	t.Helper()
	what := strconv.Itoa(int(a.Kind)) + " " + strconv.Quote(string(rune(a.Final))) + " of " + tellingOf(s)
	got, r, e := Do(s, a)
	if e != api.OK || string(r) != string(bytesOf(reply)) {
		t.Fatalf("Do(%s, %+v) = %q, %d, not %q", tellingOf(s), a, r, e, bytesOf(reply))
	}
	checkScreen(t, what, got, want)
}

// deed is a screen, an action, what the screen becomes, and the reply.
type deed struct {
	from  string
	a     api.Action
	want  string
	reply string
}

func checkDeeds(t *testing.T, l []deed) {
	t.Helper()
	for _, d := range l {
		s := screenOf(d.from)
		checkDo(t, s, d.a, become(s, d.want), d.reply)
	}
}

// terminal is a new one.
func terminal(t testing.TB, cols, rows int) *Emulator {
	t.Helper()
	m, e := New(cols, rows)
	if m == nil || e != api.OK {
		t.Fatalf("New(%d, %d) = %v, %d", cols, rows, m, e)
	}
	return m
}
