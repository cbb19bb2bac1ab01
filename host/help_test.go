package host

import (
	"math"
	"reflect"
	"slices"
	"strconv"
	"strings"
	"testing"

	"wayfarer/api"
	"wayfarer/model"
	"wayfarer/screen"
)

const (
	least    = math.MinInt
	greatest = math.MaxInt

	wide   = 0x4e2d // a character of the width 2
	face   = 0x1f600
	mark   = 0x301 // those of the width 0
	second = 0x302
	third  = 0xe0100
)

// noise is numbers that look like chance and are always the same ones.
type noise uint64

func (n *noise) next() uint64 {
	*n = *n*6364136223846793005 + 1442695040888963407
	return uint64(*n >> 32)
}

func (n *noise) below(count int) int {
	return int(n.next() % uint64(count))
}

func pick[T any](n *noise, l []T) T {
	return l[n.below(len(l))]
}

// bytesOf is a text as bytes: & is 27.
func bytesOf(text string) []byte {
	return []byte(strings.ReplaceAll(text, "&", "\x1b"))
}

// textOf is bytes as such a text.
func textOf(b []byte) string {
	return strings.ReplaceAll(string(b), "\x1b", "&")
}

// Styles: plain; one with a ground of its own; one whose blanks are those of the plain one.
func plain() api.Style { return api.Style{Fg: -1, Bg: -1} }

func ground() api.Style { return api.Style{Fg: 1, Bg: 4, Bold: true} }

func under() api.Style { return api.Style{Fg: -1, Bg: -1, Under: true} }

// flagged is the style that has the flags of a number's bits, and colours.
func flagged(flags, fg, bg int) api.Style {
	on := func(at int) bool { return flags>>at&1 == 1 }
	return api.Style{Fg: fg, Bg: bg, Bold: on(0), Faint: on(1), Italic: on(2), Under: on(3), Blink: on(4), Inverse: on(5), Hidden: on(6), Struck: on(7)}
}

// runes is a list of so many numbers.
func runes(count int, c rune) []rune {
	return slices.Repeat([]rune{c}, count)
}

// marks is what stands for a cell in a picture.
const marks = ".abcdefghixyz13W-MF~,R_ABCDXYZ="

// cellOf is the cell that a sign stands for. Of the plain style: a dot is a blank, small letters are themselves, 1 and 3 an a with so many marks, W and - the halves of a wide one, M and F the first halves of one with a mark and of another one, a comma a blank with a mark, R the replacement. Of the style ground: _ is a blank, A, B, C, D, Y, Z are the small letters, X and = the halves of a wide one. Of the style under: ~ is a space.
func cellOf(sign byte) api.Cell {
	x := api.Cell{Char: rune(sign), Wide: 1, Style: plain()}
	switch sign {
	case '.':
		x.Char = 32
	case '1':
		x.Char, x.Marks = 'a', [3]rune{mark}
	case '3':
		x.Char, x.Marks = 'a', [3]rune{mark, second, third}
	case 'W':
		x.Char, x.Wide = wide, 2
	case 'M':
		x.Char, x.Wide, x.Marks = wide, 2, [3]rune{mark}
	case 'F':
		x.Char, x.Wide = face, 2
	case '-':
		x.Char, x.Wide = 0, 0
	case ',':
		x.Char, x.Marks = 32, [3]rune{mark}
	case 'R':
		x.Char = 0xfffd
	case '~':
		x.Char, x.Style = 32, under()
	case '_':
		x.Char, x.Style = 32, api.Style{Fg: -1, Bg: 4}
	case 'A', 'B', 'C', 'D', 'Y', 'Z':
		x.Char, x.Style = rune(sign-'A'+'a'), ground()
	case 'X':
		x.Char, x.Wide, x.Style = wide, 2, ground()
	case '=':
		x.Char, x.Wide, x.Style = 0, 0, ground()
	}
	return x
}

// gridOf is the grid of a picture, whose rows are told apart by /.
func gridOf(picture string) api.Grid {
	rows := strings.Split(picture, "/")
	g := api.Grid{Cols: len(rows[0]), Rows: len(rows)}
	for _, row := range rows {
		if len(row) != g.Cols {
			panic(picture + " has rows of unlike lengths")
		}
		for _, sign := range []byte(row) {
			g.Cells = append(g.Cells, cellOf(sign))
		}
	}
	return g
}

// pictureOf is the picture of a grid; ? stands for a cell that has no sign.
func pictureOf(g api.Grid) string {
	var b strings.Builder
	for i, x := range g.Cells {
		if i > 0 && g.Cols > 0 && i%g.Cols == 0 {
			b.WriteByte('/')
		}
		found := byte('?')
		for _, sign := range []byte(marks) {
			if cellOf(sign) == x {
				found = sign
			}
		}
		b.WriteByte(found)
	}
	return b.String()
}

// fresh is a new screen, by hand.
func fresh(cols, rows int) api.Screen {
	s := api.Screen{Grid: api.Grid{Cols: cols, Rows: rows}, Style: plain(), Bottom: rows - 1, Wrap: true, Visible: true, Saved: api.Saved{Style: plain()}}
	for range cols * rows {
		s.Grid.Cells = append(s.Grid.Cells, cellOf('.'))
	}
	for col := 8; col < cols; col += 8 {
		s.Tabs = append(s.Tabs, col)
	}
	return s
}

// become is s, changed as a text tells it: a picture, or = for the one that there is; the cursor as row,col with a + if it pends; the rows that scroll as top-bottom; modes; a style.
func become(s api.Screen, text string) api.Screen {
	s = apart(s)
	for i, word := range strings.Fields(text) {
		switch {
		case i == 0 && word == "=":
		case i == 0:
			s.Grid = gridOf(word)
		case isModeOf(&s, word):
		case strings.Contains(word, "-"):
			s.Top, s.Bottom = pairOf(word, "-")
		default:
			s.Row, s.Col = pairOf(strings.TrimSuffix(word, "+"), ",")
			s.Pend = strings.HasSuffix(word, "+")
		}
	}
	return s
}

// isModeOf turns the mode of a word on or off, or takes the style of it, if it names one.
func isModeOf(s *api.Screen, word string) bool {
	name, off := strings.CutPrefix(word, "no")
	modes := map[string]*bool{"wrap": &s.Wrap, "origin": &s.Origin, "insert": &s.Insert, "arrows": &s.Arrows, "paste": &s.Paste, "visible": &s.Visible}
	if mode := modes[name]; mode != nil {
		*mode = !off
		return true
	}
	styles := map[string]api.Style{"plain": plain(), "ground": ground(), "under": under()}
	style, found := styles[word]
	if found {
		s.Style = style
	}
	return found
}

func pairOf(text, between string) (int, int) {
	first, last, _ := strings.Cut(text, between)
	n, err := strconv.Atoi(first)
	m, err2 := strconv.Atoi(last)
	if err != nil || err2 != nil {
		panic(text)
	}
	return n, m
}

// screenOf is a screen as a text tells it, of which all else is as of a new one.
func screenOf(text string) api.Screen {
	g := gridOf(strings.Fields(text)[0])
	s := become(fresh(g.Cols, g.Rows), text)
	if !screen.May(s) {
		panic(text + " may not be")
	}
	return s
}

// odd is s with tabulators, a title, modes and a kept cursor that no new one has.
func odd(s api.Screen) api.Screen {
	s = apart(s)
	s.Arrows, s.Tabs, s.Title = true, []int{0}, []rune{'t', 0, math.MaxInt32}
	s.Saved = api.Saved{Row: s.Grid.Rows - 1, Col: s.Grid.Cols - 1, Pend: true, Origin: true, Style: under()}
	return s
}

// wild is s with each part something else that a terminal shows none of.
func wild(s api.Screen) api.Screen {
	s = odd(s)
	s.Style, s.Top, s.Bottom = ground(), 0, 0
	s.Wrap, s.Origin, s.Insert, s.Paste = false, true, true, true
	s.Pend = s.Col == s.Grid.Cols-1
	s.Alt, s.Main = true, fresh(s.Grid.Cols, s.Grid.Rows).Grid
	s.Main.Cells[0] = cellOf('z')
	return s
}

// titled is s of a title.
func titled(s api.Screen, title []rune) api.Screen {
	s = apart(s)
	s.Title = title
	return s
}

// tellingOf is a screen as a text, for when a test fails.
func tellingOf(s api.Screen) string {
	g, main := pictureOf(s.Grid), pictureOf(s.Main)
	s.Grid.Cells, s.Main.Cells = nil, nil
	return g + " main " + main + " " + restOf(s)
}

// restOf is all fields of a struct, each behind its name.
func restOf(x any) string {
	v := reflect.ValueOf(x)
	var b strings.Builder
	for i := range v.NumField() {
		name, field := v.Type().Field(i).Name, v.Field(i)
		switch field.Kind() {
		case reflect.Int:
			b.WriteString(name + ":" + strconv.FormatInt(field.Int(), 10) + " ")
		case reflect.Bool:
			b.WriteString(name + ":" + strconv.FormatBool(field.Bool()) + " ")
		case reflect.Slice:
			b.WriteString(name + ":" + strconv.Itoa(field.Len()) + " of them ")
		case reflect.Struct:
			b.WriteString(name + ":{" + restOf(field.Interface()) + "} ")
		}
	}
	return b.String()
}

// apart is s in memory of its own.
func apart(s api.Screen) api.Screen {
	s.Grid.Cells, s.Main.Cells = slices.Clone(s.Grid.Cells), slices.Clone(s.Main.Cells)
	s.Tabs, s.Title = slices.Clone(s.Tabs), slices.Clone(s.Title)
	return s
}

// equal is whether screens are the same, by the library's own comparison; lists that are nil and lists without elements are.
func equal(s, t api.Screen) bool {
	return reflect.DeepEqual(withNil(s), withNil(t))
}

func withNil(s api.Screen) api.Screen {
	s.Grid.Cells, s.Main.Cells = nilOf(s.Grid.Cells), nilOf(s.Main.Cells)
	s.Tabs, s.Title = nilOf(s.Tabs), nilOf(s.Title)
	return s
}

// nilOf is l, or nil for a list without elements.
func nilOf[T any](l []T) []T {
	if len(l) == 0 {
		return nil
	}
	return l
}

// roomyList is a list with room behind its end, which has elements of its own.
func roomyList[T any](l []T, behind T) []T {
	r := append(make([]T, 0, len(l)+5), l...)
	for range 5 {
		r = append(r, behind)
	}
	return r[:len(l)]
}

// roomy is s with such lists.
func roomy(s api.Screen) api.Screen {
	s.Grid.Cells, s.Main.Cells = roomyList(s.Grid.Cells, cellOf('e')), roomyList(s.Main.Cells, cellOf('f'))
	s.Tabs, s.Title = roomyList(s.Tabs, 7), roomyList(s.Title, 'e')
	return s
}

// toEnd is s with its lists up to the end of their room.
func toEnd(s api.Screen) api.Screen {
	s.Grid.Cells, s.Main.Cells = s.Grid.Cells[:cap(s.Grid.Cells)], s.Main.Cells[:cap(s.Main.Cells)]
	s.Tabs, s.Title = s.Tabs[:cap(s.Tabs)], s.Title[:cap(s.Title)]
	return s
}

// spoilList makes all of a list something else, the room behind its end too.
func spoilList[T any](l []T, by T) {
	l = l[:cap(l)]
	for i := range l {
		l[i] = by
	}
}

func spoil(s api.Screen) {
	spoilList(s.Grid.Cells, api.Cell{Char: 'z', Wide: 7})
	spoilList(s.Main.Cells, api.Cell{Char: 'z', Wide: 8})
	spoilList(s.Tabs, -77)
	spoilList(s.Title, -88)
}

// stateOf is the state of a screen as a text tells it, of which all else is as of a new one, and echo.
func stateOf(text string, echo uint64) api.Host {
	return api.Host{Screen: screenOf(text), Echo: echo}
}

// shown is the state of a terminal that was handed bytes.
func shown(t testing.TB, cols, rows int, text string, echo uint64) api.Host {
	t.Helper()
	s, e := model.Of(cols, rows, bytesOf(text))
	if e != api.OK {
		t.Fatalf("model.Of(%d, %d, %q) = %d", cols, rows, text, e)
	}
	return checkOf(t, s, echo)
}

// stateApart is h in memory of its own.
func stateApart(h api.Host) api.Host {
	h.Screen = apart(h.Screen)
	return h
}

// changedBy is h, its screen changed in memory of its own.
func changedBy(h api.Host, by func(s *api.Screen)) api.Host {
	h = stateApart(h)
	by(&h.Screen)
	return h
}

// diffOf is the form of a difference, by the chapter's words: text is its bytes.
func diffOf(echo, cols, rows uint64, text string) []byte {
	return append([]byte(number(echo)+number(cols)+number(rows)), bytesOf(text)...)
}

// short is a text that is not too long to be told.
func short(text string) string {
	return text[:min(len(text), 200)]
}
