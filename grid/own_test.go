package grid

import (
	"slices"
	"testing"

	"wayfarer/api"
)

// call is one call of a grid and of cells, whichever it takes.
type call struct {
	name string
	do   func(g api.Grid, l []api.Cell) (api.Grid, api.Errno)
}

// calls is calls that change something, ones that change nothing, and ones that are refused.
func calls() []call {
	s := ground()
	return []call{
		{"Write", func(g api.Grid, l []api.Cell) (api.Grid, api.Errno) { return Write(g, 1, 1, s, l...) }},
		{"Write to the end", func(g api.Grid, l []api.Cell) (api.Grid, api.Errno) { return Write(g, 0, 3, s, l...) }},
		{"Write behind all", func(g api.Grid, l []api.Cell) (api.Grid, api.Errno) { return Write(g, 2, 2, s, l...) }},
		{"Write of nothing", func(g api.Grid, l []api.Cell) (api.Grid, api.Errno) { return Write(g, 0, 0, s) }},
		{"Write nowhere", func(g api.Grid, l []api.Cell) (api.Grid, api.Errno) { return Write(g, 3, 0, s, l...) }},
		{"Erase", func(g api.Grid, l []api.Cell) (api.Grid, api.Errno) { return Erase(g, 0, 1, 3, s) }},
		{"Erase all", func(g api.Grid, l []api.Cell) (api.Grid, api.Errno) { return Erase(g, 2, 0, 4, s) }},
		{"Erase nothing", func(g api.Grid, l []api.Cell) (api.Grid, api.Errno) { return Erase(g, 1, 2, 2, s) }},
		{"Erase nowhere", func(g api.Grid, l []api.Cell) (api.Grid, api.Errno) { return Erase(g, 1, 2, 1, s) }},
		{"Shift right", func(g api.Grid, l []api.Cell) (api.Grid, api.Errno) { return Shift(g, 2, 0, 1, s) }},
		{"Shift left", func(g api.Grid, l []api.Cell) (api.Grid, api.Errno) { return Shift(g, 0, 1, -1, s) }},
		{"Shift by 0", func(g api.Grid, l []api.Cell) (api.Grid, api.Errno) { return Shift(g, 0, 1, 0, s) }},
		{"Shift nowhere", func(g api.Grid, l []api.Cell) (api.Grid, api.Errno) { return Shift(g, 0, 4, 1, s) }},
		{"Scroll up", func(g api.Grid, l []api.Cell) (api.Grid, api.Errno) { return Scroll(g, 0, 2, 1, s) }},
		{"Scroll down", func(g api.Grid, l []api.Cell) (api.Grid, api.Errno) { return Scroll(g, 1, 2, -1, s) }},
		{"Scroll by 0", func(g api.Grid, l []api.Cell) (api.Grid, api.Errno) { return Scroll(g, 0, 2, 0, s) }},
		{"Scroll nowhere", func(g api.Grid, l []api.Cell) (api.Grid, api.Errno) { return Scroll(g, 0, 3, 1, s) }},
		{"Resize smaller", func(g api.Grid, l []api.Cell) (api.Grid, api.Errno) { return Resize(g, 3, 2, s) }},
		{"Resize greater", func(g api.Grid, l []api.Cell) (api.Grid, api.Errno) { return Resize(g, 5, 4, s) }},
		{"Resize to the same", func(g api.Grid, l []api.Cell) (api.Grid, api.Errno) { return Resize(g, 4, 3, s) }},
		{"Resize to nothing", func(g api.Grid, l []api.Cell) (api.Grid, api.Errno) { return Resize(g, 0, 3, s) }},
		{"New", func(g api.Grid, l []api.Cell) (api.Grid, api.Errno) { return New(4, 3, s) }},
		{"May and Same", func(g api.Grid, l []api.Cell) (api.Grid, api.Errno) {
			May(g)
			Same(g, api.Grid{Cols: g.Cols, Rows: g.Rows, Cells: l})
			return api.Grid{}, api.OK
		}},
	}
}

// roomy is cells with room behind their end, which has cells of its own.
func roomy(picture string) []api.Cell {
	l := cellsOf(picture + "eeeeeeee")
	return l[:len(picture)]
}

// spoil makes all of an answer something else, the room behind its end too.
func spoil(g api.Grid) {
	l := g.Cells[:cap(g.Cells)]
	for i := range l {
		l[i] = api.Cell{Char: 'z', Wide: 7}
	}
}

// P15.1, P15.2, P15.3: what is handed in stays as it is, the room behind its end too, and what is answered shares no memory with it or with another answer.
func TestOwn(t *testing.T) {
	const picture, written = "aW-bX=cdeW-.", "dX=W"
	for _, c := range calls() {
		g := api.Grid{Cols: 4, Rows: 3, Cells: roomy(picture)}
		l := roomy(written)
		first, e := c.do(g, l)
		second, e2 := c.do(g, l)
		if e != e2 || !Same(first, second) {
			t.Fatalf("%s answers %s, %d, and then %s, %d", c.name, pictureOf(first), e, pictureOf(second), e2)
		}
		kept := slices.Clone(second.Cells)
		spoil(first)
		if !slices.Equal(second.Cells, kept) {
			t.Errorf("%s: two answers share memory", c.name)
		}
		spoil(second)
		if !slices.Equal(g.Cells[:cap(g.Cells)], roomy(picture)[:cap(g.Cells)]) || g.Cols != 4 || g.Rows != 3 {
			t.Errorf("%s: the grid did not stay as it was", c.name)
		}
		if !slices.Equal(l[:cap(l)], roomy(written)[:cap(l)]) {
			t.Errorf("%s: the cells did not stay as they were", c.name)
		}
		// What is handed in and changed behind the call changes no answer.
		third, _ := c.do(g, l)
		kept = slices.Clone(third.Cells)
		spoil(g)
		spoil(api.Grid{Cells: l})
		if !slices.Equal(third.Cells, kept) {
			t.Errorf("%s: an answer shares memory with what was handed in", c.name)
		}
	}
}

// P15.1, P15.2, P15.3: what lies behind the end of what is handed in is of no weight.
func TestRoomIsNoCells(t *testing.T) {
	for _, c := range calls() {
		got, e := c.do(api.Grid{Cols: 4, Rows: 3, Cells: roomy("aW-bX=cdeW-.")}, roomy("dX=W"))
		want, wantE := c.do(api.Grid{Cols: 4, Rows: 3, Cells: slices.Clip(cellsOf("aW-bX=cdeW-."))}, slices.Clip(cellsOf("dX=W")))
		if e != wantE || !equal(got, want) {
			t.Errorf("%s = %s, %d, not %s, %d", c.name, pictureOf(got), e, pictureOf(want), wantE)
		}
	}
}

func full() api.Grid {
	g, _ := New(80, 24, plain())
	for i := range g.Cells {
		g.Cells[i] = cellOf("abcdeABC."[i%9])
	}
	return g
}

func BenchmarkMay(b *testing.B) {
	g := full()
	for b.Loop() {
		May(g)
	}
}

func BenchmarkMayBlank(b *testing.B) {
	g, _ := New(80, 24, plain())
	for b.Loop() {
		May(g)
	}
}

func BenchmarkWrite(b *testing.B) {
	g, l := full(), cellsOf("a")
	for b.Loop() {
		Write(g, 3, 4, plain(), l...)
	}
}

func BenchmarkScroll(b *testing.B) {
	g := full()
	for b.Loop() {
		Scroll(g, 0, 23, 1, plain())
	}
}

func BenchmarkResize(b *testing.B) {
	g := full()
	for b.Loop() {
		Resize(g, 132, 50, plain())
	}
}
