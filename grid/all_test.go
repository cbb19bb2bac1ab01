package grid

import (
	"math"
	"slices"
	"testing"

	"wayfarer/api"
	"wayfarer/cell"
)

// far is numbers at and past the edges of a side, and the farthest ones.
func far(side int) (l []int) {
	for n := -side - 2; n <= side+2; n++ {
		l = append(l, n)
	}
	return append(l, math.MinInt, math.MinInt+1, -1<<32, 1<<32, math.MaxInt-1, math.MaxInt)
}

// rowsThatMay is all rows of so many of some marks that may be.
func rowsThatMay(count int) (l []string) {
	rowsOfMarks(".aW-X=", count, func(picture string) {
		if slowMay(gridOf(picture)) {
			l = append(l, picture)
		}
	})
	return l
}

// P15.1: each list of up to three cells, halves by themselves among them, at each column of each short row.
func TestWriteAll(t *testing.T) {
	for count := 1; count <= 4; count++ {
		for _, picture := range rowsThatMay(count) {
			g := gridOf(picture)
			for size := 0; size <= 3; size++ {
				rowsOfMarks(".W-X=", size, func(cells string) {
					for col := -1; col <= count; col++ {
						l := cellsOf(cells)
						got, e := Write(g, 0, col, ground(), l...)
						want, wantE := slowWrite(g, 0, col, ground(), l...)
						check(t, told("Write "+cells, g, col), got, e, want, wantE)
					}
				})
			}
		}
	}
}

// P15.2: each span, each shift of each short row.
func TestEraseShiftAll(t *testing.T) {
	for count := 1; count <= 5; count++ {
		for _, picture := range rowsThatMay(count) {
			g := gridOf(picture)
			for from := -1; from <= count+1; from++ {
				for to := -1; to <= count+1; to++ {
					got, e := Erase(g, 0, from, to, ground())
					want, wantE := slowErase(g, 0, from, to, ground())
					check(t, told("Erase", g, from, to), got, e, want, wantE)
				}
				for _, by := range far(count) {
					got, e := Shift(g, 0, from, by, ground())
					want, wantE := slowShift(g, 0, from, by, ground())
					check(t, told("Shift", g, from, by), got, e, want, wantE)
				}
			}
		}
	}
}

// letters is a grid of so many rows, each of other cells.
func letters(rows int) api.Grid {
	pictures := []string{"abc", "W-d", "eX=", "Ba.", "Y~A"}
	g := api.Grid{Cols: 3, Rows: rows}
	for row := range rows {
		g.Cells = append(g.Cells, cellsOf(pictures[row])...)
	}
	return g
}

// P15.3: each part of the rows, by each number.
func TestScrollAll(t *testing.T) {
	for rows := 1; rows <= 5; rows++ {
		g := letters(rows)
		for top := -1; top <= rows+1; top++ {
			for bottom := -1; bottom <= rows+1; bottom++ {
				for _, by := range far(rows) {
					got, e := Scroll(g, top, bottom, by, ground())
					want, wantE := slowScroll(g, top, bottom, by, ground())
					check(t, told("Scroll", g, top, bottom, by), got, e, want, wantE)
				}
			}
		}
	}
}

// P15.3: each short row, each number of rows, to each size.
func TestResizeAll(t *testing.T) {
	for count := 1; count <= 4; count++ {
		for _, picture := range rowsThatMay(count) {
			checkResizes(t, gridOf(picture), 6)
		}
	}
	for rows := 1; rows <= 5; rows++ {
		checkResizes(t, letters(rows), 7)
	}
	for _, size := range [][2]int{{512, 512}, {512, 1}, {1, 512}, {513, 1}, {1, 513}, {512, 513}, {513, 512}} {
		g := letters(5)
		got, e := Resize(g, size[0], size[1], ground())
		want, wantE := slowResize(g, size[0], size[1], ground())
		check(t, told("Resize", g, size[0], size[1]), got, e, want, wantE)
	}
}

func checkResizes(t *testing.T, g api.Grid, most int) {
	t.Helper()
	for cols := -1; cols <= most; cols++ {
		for rows := -1; rows <= most; rows++ {
			got, e := Resize(g, cols, rows, ground())
			want, wantE := slowResize(g, cols, rows, ground())
			check(t, told("Resize", g, cols, rows), got, e, want, wantE)
		}
	}
}

// P15.1, P15.2: each call at each row, of several.
func TestRows(t *testing.T) {
	g := letters(5)
	for _, row := range far(5) {
		for col := -1; col <= 3; col++ {
			got, e := Write(g, row, col, plain(), cellsOf("X=b")...)
			want, wantE := slowWrite(g, row, col, plain(), cellsOf("X=b")...)
			check(t, told("Write", g, row, col), got, e, want, wantE)
			got, e = Erase(g, row, col, col+1, ground())
			want, wantE = slowErase(g, row, col, col+1, ground())
			check(t, told("Erase", g, row, col), got, e, want, wantE)
			for _, by := range far(3) {
				got, e = Shift(g, row, col, by, ground())
				want, wantE = slowShift(g, row, col, by, ground())
				check(t, told("Shift", g, row, col, by), got, e, want, wantE)
			}
		}
	}
}

// P15.1, P15.2, P15.3: the greatest grid, at its corners.
func TestGreatest(t *testing.T) {
	g, e := New(512, 512, plain())
	for _, row := range []int{0, 511} {
		for _, col := range []int{0, 510} {
			g, e = Write(g, row, col, plain(), cellsOf("X=")...)
			if e != api.OK || g.Cells[row*512+col] != cellOf('X') || g.Cells[row*512+col+1] != cellOf('=') {
				t.Fatalf("Write %d %d = %d", row, col, e)
			}
		}
	}
	h, e := Erase(g, 511, 511, 512, plain())
	if e != api.OK || h.Cells[512*512-2] != cellOf('_') || h.Cells[512*512-1] != cellOf('.') || !slices.Equal(h.Cells[:512*512-2], g.Cells[:512*512-2]) {
		t.Errorf("Erase = %d", e)
	}
	h, e = Shift(g, 511, 0, 511, ground())
	if e != api.OK || h.Cells[512*511+510] != cellOf('_') || h.Cells[512*512-1] != cellOf('_') || !slices.Equal(h.Cells[:512*511], g.Cells[:512*511]) {
		t.Errorf("Shift = %d", e)
	}
	h, e = Scroll(g, 0, 511, 511, ground())
	if e != api.OK || !slices.Equal(h.Cells[:512], g.Cells[511*512:]) || h.Cells[512] != cellOf('_') || h.Cells[512*512-1] != cellOf('_') {
		t.Errorf("Scroll = %d", e)
	}
	h, e = Resize(g, 511, 512, ground())
	if e != api.OK || h.Cells[511*512-1] != cellOf('_') || h.Cells[509] != cellOf('.') || h.Cells[510] != cellOf('_') || len(h.Cells) != 511*512 {
		t.Errorf("Resize = %d", e)
	}
	for _, x := range []struct{ row, col int }{{512, 0}, {0, 512}, {-1, 511}, {511, -1}} {
		h, e = Write(g, x.row, x.col, plain(), cellsOf("a")...)
		checkPicture(t, "Write", h, e, "")
	}
}

// step is one call that looks like chance, with what the words read slowly make of it.
func step(n *noise, g api.Grid) (name string, got, want api.Grid, e, wantE api.Errno) {
	s := pick(n, goodStyles())
	if n.below(50) == 0 {
		s = pick(n, badStyles())
	}
	row, col := n.below(g.Rows+2)-1, n.below(g.Cols+2)-1
	switch n.below(5) {
	case 0:
		l := chanceCells(n, n.below(2*g.Cols+1))
		got, e = Write(g, row, col, s, l...)
		want, wantE = slowWrite(g, row, col, s, l...)
		return "Write", got, want, e, wantE
	case 1:
		to := n.below(g.Cols+3) - 1
		got, e = Erase(g, row, col, to, s)
		want, wantE = slowErase(g, row, col, to, s)
		return "Erase", got, want, e, wantE
	case 2:
		by := pick(n, far(g.Cols))
		got, e = Shift(g, row, col, by, s)
		want, wantE = slowShift(g, row, col, by, s)
		return "Shift", got, want, e, wantE
	case 3:
		bottom, by := n.below(g.Rows+2)-1, pick(n, far(g.Rows))
		got, e = Scroll(g, row, bottom, by, s)
		want, wantE = slowScroll(g, row, bottom, by, s)
		return "Scroll", got, want, e, wantE
	}
	cols, rows := n.below(9), n.below(7)
	got, e = Resize(g, cols, rows, s)
	want, wantE = slowResize(g, cols, rows, s)
	return "Resize", got, want, e, wantE
}

// chanceCells is cells that look like chance, wide ones whole for the most part.
func chanceCells(n *noise, count int) (l []api.Cell) {
	for len(l) < count {
		switch n.below(8) {
		case 0:
			l = append(l, cellOf(pick(n, []byte(marks))))
		case 1:
			l = append(l, cellOf(pick(n, []byte("W-X=Y~"))))
		default:
			l = append(l, cell.Put(pick(n, []rune{'a', 0x20ac, 0x4e2d, 0x1f600}), pick(n, goodStyles()))...)
		}
	}
	return l
}

// P15.4: what may be, may be behind each of many calls, one behind the other.
func TestManyCalls(t *testing.T) {
	n := noise(15)
	done, refused, wide := 0, 0, 0
	for range 300 {
		g, _ := New(1+n.below(8), 1+n.below(6), pick(&n, goodStyles()))
		for range 60 {
			name, got, want, e, wantE := step(&n, g)
			check(t, name, got, e, want, wantE)
			if e != api.OK {
				refused++
				continue
			}
			if !slowMay(got) {
				t.Fatalf("%s made %s", name, pictureOf(got))
			}
			g = got
			done++
			if slices.ContainsFunc(g.Cells, func(c api.Cell) bool { return c.Wide == 2 }) {
				wide++
			}
		}
	}
	if done < 5000 || refused < 1000 || wide < 1000 {
		t.Errorf("%d calls done, %d refused, %d with a wide character", done, refused, wide)
	}
}

// P15.4: Scroll there and back leaves the rows that were not lost.
func TestThereAndBack(t *testing.T) {
	for rows := 1; rows <= 5; rows++ {
		g := letters(rows)
		old := slowRows(g)
		for top := range rows {
			for bottom := top; bottom < rows; bottom++ {
				for by := -rows - 1; by <= rows+1; by++ {
					there, e := Scroll(g, top, bottom, by, ground())
					back, e2 := Scroll(there, top, bottom, -by, plain())
					if e != api.OK || e2 != api.OK {
						t.Fatalf("Scroll %d %d %d: %d, %d", top, bottom, by, e, e2)
					}
					for row, l := range slowRows(back) {
						moved := row - by
						lost := row >= top && row <= bottom && (moved < top || moved > bottom)
						want := old[row]
						if lost {
							want = cellsOf("...")
						}
						if !slices.Equal(l, want) {
							t.Fatalf("Scroll %d %d %d and back: row %d of %s is %s", top, bottom, by, row, pictureOf(g), pictureOf(back))
						}
					}
				}
			}
		}
	}
}
