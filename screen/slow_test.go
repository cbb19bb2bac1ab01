package screen

import (
	"math/big"
	"slices"
	"strconv"

	"wayfarer/api"
	"wayfarer/cell"
	"wayfarer/grid"
	"wayfarer/width"
)

// The document's words, read slowly: each sentence by itself, with numbers that have no end, and each call of the layer below with the whole grid.

// deed is one call, with what is handed to it beside the screen.
type deed struct {
	name     string
	char     rune
	m, n     int
	flag, on bool
}

func (d deed) String() string {
	text := d.name + "(" + strconv.Itoa(int(d.char)) + " " + strconv.Itoa(d.m) + " " + strconv.Itoa(d.n)
	return text + " " + strconv.FormatBool(d.flag) + " " + strconv.FormatBool(d.on) + ")"
}

// Deeds, each by the arguments that it has.
func printOf(c rune) deed                { return deed{name: "Print", char: c} }
func controlOf(c rune) deed              { return deed{name: "Control", char: c} }
func moveOf(down, right int) deed        { return deed{name: "Move", m: down, n: right} }
func placeOf(row, col int) deed          { return deed{name: "Place", m: row, n: col} }
func eraseOf(lines bool, kind int) deed  { return deed{name: "Erase", flag: lines, n: kind} }
func linesOf(n int) deed                 { return deed{name: "Lines", n: n} }
func charsOf(n int) deed                 { return deed{name: "Chars", n: n} }
func wipeOf(n int) deed                  { return deed{name: "Wipe", n: n} }
func scrollOf(n int) deed                { return deed{name: "Scroll", n: n} }
func regionOf(top, bottom int) deed      { return deed{name: "Region", m: top, n: bottom} }
func keepOf(back bool) deed              { return deed{name: "Keep", flag: back} }
func modeOf(p bool, n int, on bool) deed { return deed{name: "Mode", flag: p, n: n, on: on} }
func tabOf(kind int) deed                { return deed{name: "Tab", n: kind} }
func resizeOf(cols, rows int) deed       { return deed{name: "Resize", m: cols, n: rows} }

// do is what the program makes of s.
func (d deed) do(s api.Screen) (api.Screen, api.Errno) {
	switch d.name {
	case "Print":
		return Print(s, d.char)
	case "Control":
		return Control(s, d.char)
	case "Move":
		return Move(s, d.m, d.n)
	case "Place":
		return Place(s, d.m, d.n)
	case "Erase":
		return Erase(s, d.flag, d.n)
	case "Lines":
		return Lines(s, d.n)
	case "Chars":
		return Chars(s, d.n)
	case "Wipe":
		return Wipe(s, d.n)
	case "Scroll":
		return Scroll(s, d.n)
	case "Region":
		return Region(s, d.m, d.n)
	case "Keep":
		return Keep(s, d.flag)
	case "Mode":
		return Mode(s, d.flag, d.n, d.on)
	case "Tab":
		return Tab(s, d.n)
	case "Resize":
		return Resize(s, d.m, d.n)
	}
	panic(d.name)
}

// slow is what the words make of s.
func (d deed) slow(s api.Screen) (api.Screen, api.Errno) {
	if !slowMay(s) {
		return api.Screen{}, api.ErrArg
	}
	s = apart(s)
	switch d.name {
	case "Print":
		slowPrint(&s, d.char)
	case "Control":
		slowControl(&s, d.char)
	case "Move":
		slowMove(&s, d.m, d.n)
	case "Place":
		slowPlace(&s, d.m, d.n)
	case "Erase":
		slowErase(&s, d.flag, d.n)
	case "Lines":
		slowLines(&s, d.n)
	case "Chars":
		s.Grid = good(grid.Shift(s.Grid, s.Row, s.Col, d.n, s.Style))
		s.Pend = false
	case "Wipe":
		slowWipe(&s, d.n)
	case "Scroll":
		s.Grid = good(grid.Scroll(s.Grid, s.Top, s.Bottom, d.n, s.Style))
		s.Pend = false
	case "Region":
		slowRegion(&s, d.m, d.n)
	case "Keep":
		slowKeep(&s, d.flag)
	case "Mode":
		slowMode(&s, d.flag, d.n, d.on)
	case "Tab":
		slowTab(&s, d.n)
	case "Resize":
		return slowResize(s, d.m, d.n)
	default:
		panic(d.name)
	}
	return s, api.OK
}

// apart is s in memory of its own.
func apart(s api.Screen) api.Screen {
	s.Grid.Cells, s.Main.Cells = slices.Clone(s.Grid.Cells), slices.Clone(s.Main.Cells)
	s.Tabs, s.Title = slices.Clone(s.Tabs), slices.Clone(s.Title)
	return s
}

// good is the grid that the layer below answers, which it must not refuse.
func good(g api.Grid, e api.Errno) api.Grid {
	if e != api.OK {
		panic(e)
	}
	return g
}

// sum is both numbers together, from low to high, as if numbers had no end.
func sum(a, b, low, high int) int {
	n := new(big.Int).Add(big.NewInt(int64(a)), big.NewInt(int64(b)))
	if n.Cmp(big.NewInt(int64(low))) < 0 {
		return low
	}
	if n.Cmp(big.NewInt(int64(high))) > 0 {
		return high
	}
	return int(n.Int64())
}

func slowMayStyle(s api.Style) bool {
	return s.Fg >= -1 && s.Fg <= 255 && s.Bg >= -1 && s.Bg <= 255
}

func slowMay(s api.Screen) bool {
	if !grid.May(s.Grid) {
		return false
	}
	cols, rows := s.Grid.Cols, s.Grid.Rows
	for _, row := range []int{s.Row, s.Top, s.Bottom, s.Saved.Row} {
		if row < 0 || row > rows-1 {
			return false
		}
	}
	for _, col := range append([]int{s.Col, s.Saved.Col}, s.Tabs...) {
		if col < 0 || col > cols-1 {
			return false
		}
	}
	if s.Top > s.Bottom || s.Pend && s.Col != cols-1 || s.Saved.Pend && s.Saved.Col != cols-1 {
		return false
	}
	if !slowMayStyle(s.Style) || !slowMayStyle(s.Saved.Style) {
		return false
	}
	for i, col := range s.Tabs {
		if slices.Contains(s.Tabs[:i], col) || i > 0 && s.Tabs[i-1] > col {
			return false
		}
	}
	if s.Alt {
		if !grid.May(s.Main) || s.Main.Cols != cols || s.Main.Rows != rows {
			return false
		}
	} else if s.Main.Cols != 0 || s.Main.Rows != 0 || len(s.Main.Cells) != 0 {
		return false
	}
	return len(s.Title) <= 256 && !slices.ContainsFunc(s.Title, func(c rune) bool { return c < 0 })
}

func slowNew(cols, rows int) (s api.Screen, e api.Errno) {
	plainStyle := api.Style{Fg: -1, Bg: -1}
	if s.Grid, e = grid.New(cols, rows, plainStyle); e != api.OK {
		return api.Screen{}, e
	}
	s.Style, s.Saved.Style = plainStyle, plainStyle
	s.Bottom = rows - 1
	s.Tabs = slowTabs(cols)
	s.Wrap, s.Visible = true, true
	return s, api.OK
}

func slowTabs(cols int) (tabs []int) {
	for col := 1; col < cols; col++ {
		if col%8 == 0 {
			tabs = append(tabs, col)
		}
	}
	return tabs
}

func slowFeed(s *api.Screen) {
	if s.Row == s.Bottom {
		s.Grid = good(grid.Scroll(s.Grid, s.Top, s.Bottom, 1, s.Style))
	} else if s.Row != s.Grid.Rows-1 {
		s.Row = s.Row + 1
	}
}

func slowFeedBack(s *api.Screen) {
	if s.Row == s.Top {
		s.Grid = good(grid.Scroll(s.Grid, s.Top, s.Bottom, -1, s.Style))
	} else if s.Row > 0 {
		s.Row = s.Row - 1
	}
}

func slowPrint(s *api.Screen, c rune) {
	w := width.Of(c)
	last := s.Grid.Cols - 1
	if w == -1 {
		return
	}
	if w == 0 {
		slowMark(s, c)
		return
	}
	if s.Pend && s.Wrap {
		s.Col = 0
		slowFeed(s)
	}
	s.Pend = false
	if w == 2 && s.Col == last {
		if s.Wrap && s.Grid.Cols >= 2 {
			s.Col = 0
			slowFeed(s)
		} else {
			return
		}
	}
	if s.Insert {
		s.Grid = good(grid.Shift(s.Grid, s.Row, s.Col, w, s.Style))
	}
	s.Grid = good(grid.Write(s.Grid, s.Row, s.Col, s.Style, cell.Put(c, s.Style)...))
	s.Col += w
	if s.Col > last {
		s.Col = last
		s.Pend = true
	}
}

func slowMark(s *api.Screen, c rune) {
	if s.Col == 0 && !s.Pend {
		return
	}
	col := s.Col - 1
	if s.Pend {
		col = s.Col
	}
	if s.Grid.Cells[s.Row*s.Grid.Cols+col].Wide == 0 {
		col = col - 1
	}
	x := s.Grid.Cells[s.Row*s.Grid.Cols+col]
	s.Grid = good(grid.Write(s.Grid, s.Row, col, s.Style, cell.Mark(x, c)))
}

func slowControl(s *api.Screen, c rune) {
	switch {
	case c == 8 && s.Col > 0:
		s.Col = s.Col - 1
	case c == 9:
		to := s.Grid.Cols - 1
		for _, col := range slices.Backward(s.Tabs) {
			if col > s.Col {
				to = col
			}
		}
		s.Col = to
	case c == 10 || c == 11 || c == 12:
		slowFeed(s)
	case c == 13:
		s.Col = 0
	case c == 141:
		slowFeedBack(s)
	}
	if slices.Contains([]rune{8, 9, 10, 11, 12, 13, 141}, c) {
		s.Pend = false
	}
}

func slowMove(s *api.Screen, down, right int) {
	most, least := s.Grid.Rows-1, 0
	if s.Row >= 0 && s.Row <= s.Bottom {
		most = s.Bottom
	}
	if s.Row >= s.Top {
		least = s.Top
	}
	s.Row = sum(s.Row, down, least, most)
	s.Col = sum(s.Col, right, 0, s.Grid.Cols-1)
	s.Pend = false
}

func slowPlace(s *api.Screen, row, col int) {
	if s.Origin {
		s.Row = sum(s.Top, row, s.Top, s.Bottom)
	} else {
		s.Row = sum(0, row, 0, s.Grid.Rows-1)
	}
	s.Col = sum(0, col, 0, s.Grid.Cols-1)
	s.Pend = false
}

// slowErase asks of each place whether it is one that is erased, and lets the layer below mend each row.
func slowErase(s *api.Screen, lines bool, kind int) {
	s.Pend = false
	cursor := s.Row*s.Grid.Cols + s.Col
	for row := 0; row < s.Grid.Rows; row++ {
		from, to := -1, -1
		for col := 0; col < s.Grid.Cols; col++ {
			place := row*s.Grid.Cols + col
			if !lines && row != s.Row {
				continue
			}
			if kind == 0 && place >= cursor || kind == 1 && place <= cursor || kind == 2 {
				if from < 0 {
					from = col
				}
				to = col + 1
			}
		}
		if from >= 0 {
			s.Grid = good(grid.Erase(s.Grid, row, from, to, s.Style))
		}
	}
}

func slowLines(s *api.Screen, n int) {
	if s.Row < s.Top || s.Row > s.Bottom {
		return
	}
	// More than the rows that there are do no more.
	s.Grid = good(grid.Scroll(s.Grid, s.Row, s.Bottom, -sum(0, n, -600, 600), s.Style))
	s.Col = 0
	s.Pend = false
}

func slowWipe(s *api.Screen, n int) {
	s.Pend = false
	if n < 1 {
		return
	}
	s.Grid = good(grid.Erase(s.Grid, s.Row, s.Col, sum(s.Col, n, 0, s.Grid.Cols), s.Style))
}

func slowRegion(s *api.Screen, top, bottom int) {
	if top >= 0 && top < bottom && bottom >= 0 && bottom < s.Grid.Rows {
		s.Top = top
		s.Bottom = bottom
		slowPlace(s, 0, 0)
	}
}

func slowKeep(s *api.Screen, back bool) {
	if !back {
		s.Saved.Row, s.Saved.Col, s.Saved.Pend, s.Saved.Origin, s.Saved.Style = s.Row, s.Col, s.Pend, s.Origin, s.Style
	} else {
		s.Row, s.Col, s.Pend, s.Origin, s.Style = s.Saved.Row, s.Saved.Col, s.Saved.Pend, s.Saved.Origin, s.Saved.Style
	}
}

func slowMode(s *api.Screen, private bool, n int, on bool) {
	if !private && n == 4 {
		s.Insert = on
	}
	if !private {
		return
	}
	alt := s.Alt
	if n == 1049 && on {
		slowKeep(s, false)
	}
	switch n {
	case 1:
		s.Arrows = on
	case 6:
		s.Origin = on
		slowPlace(s, 0, 0)
	case 7:
		s.Wrap = on
	case 25:
		s.Visible = on
	case 2004:
		s.Paste = on
	case 47, 1047, 1049:
		if on && !alt {
			s.Main = s.Grid
			s.Grid = good(grid.New(s.Main.Cols, s.Main.Rows, s.Style))
			s.Alt = true
		}
		if !on && alt {
			s.Grid = s.Main
			s.Main = api.Grid{}
			s.Alt = false
		}
	}
	if n == 1049 && !on && alt {
		slowKeep(s, true)
	}
}

func slowTab(s *api.Screen, kind int) {
	var tabs []int
	for col := 0; col < s.Grid.Cols; col++ {
		stands := slices.Contains(s.Tabs, col)
		if kind == 0 && col == s.Col {
			stands = true
		}
		if kind == 1 && col == s.Col || kind == 2 {
			stands = false
		}
		if stands {
			tabs = append(tabs, col)
		}
	}
	s.Tabs = tabs
}

func slowResize(s api.Screen, cols, rows int) (api.Screen, api.Errno) {
	fresh, e := slowNew(cols, rows)
	if e != api.OK {
		return api.Screen{}, api.ErrArg
	}
	s.Grid = good(grid.Resize(s.Grid, cols, rows, s.Style))
	if s.Alt {
		s.Main = good(grid.Resize(s.Main, cols, rows, s.Style))
	}
	for _, row := range []*int{&s.Row, &s.Saved.Row} {
		*row = sum(*row, 0, 0, rows-1)
	}
	for _, col := range []*int{&s.Col, &s.Saved.Col} {
		*col = sum(*col, 0, 0, cols-1)
	}
	s.Pend = false
	s.Saved.Pend = false
	s.Top, s.Bottom, s.Tabs = fresh.Top, fresh.Bottom, fresh.Tabs
	return s, api.OK
}
