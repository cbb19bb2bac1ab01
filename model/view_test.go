package model

import (
	"slices"
	"strconv"
	"testing"

	"wayfarer/api"
)

// changedView is a name, and what makes a view one that differs.
type changedView struct {
	name string
	by   func(v *api.View)
}

// cellChanges is what makes a cell another one in one field alone, be it one that may be or not.
func cellChanges() map[string]func(x *api.Cell) {
	return map[string]func(x *api.Cell){
		"character":  func(x *api.Cell) { x.Char++ },
		"first mark": func(x *api.Cell) { x.Marks[0]++ },
		"last mark":  func(x *api.Cell) { x.Marks[api.Marks-1]++ },
		"width":      func(x *api.Cell) { x.Wide++ },
		"fg":         func(x *api.Cell) { x.Style.Fg++ },
		"bg":         func(x *api.Cell) { x.Style.Bg++ },
		"bold":       func(x *api.Cell) { x.Style.Bold = !x.Style.Bold },
		"faint":      func(x *api.Cell) { x.Style.Faint = !x.Style.Faint },
		"italic":     func(x *api.Cell) { x.Style.Italic = !x.Style.Italic },
		"under":      func(x *api.Cell) { x.Style.Under = !x.Style.Under },
		"blink":      func(x *api.Cell) { x.Style.Blink = !x.Style.Blink },
		"inverse":    func(x *api.Cell) { x.Style.Inverse = !x.Style.Inverse },
		"hidden":     func(x *api.Cell) { x.Style.Hidden = !x.Style.Hidden },
		"struck":     func(x *api.Cell) { x.Style.Struck = !x.Style.Struck },
	}
}

// viewChanges is what makes a view, which has cells and a title, another one in one field alone.
func viewChanges() []changedView {
	l := []changedView{
		{"cols", func(v *api.View) { v.Grid.Cols++ }},
		{"rows", func(v *api.View) { v.Grid.Rows++ }},
		{"cols least", func(v *api.View) { v.Grid.Cols = least }},
		{"no cells", func(v *api.View) { v.Grid.Cells = nil }},
		{"a cell less", func(v *api.View) { v.Grid.Cells = v.Grid.Cells[:len(v.Grid.Cells)-1] }},
		{"a cell more", func(v *api.View) { v.Grid.Cells = append(v.Grid.Cells, cellOf('.')) }},
		{"row", func(v *api.View) { v.Row++ }},
		{"row far", func(v *api.View) { v.Row = greatest }},
		{"col", func(v *api.View) { v.Col++ }},
		{"col far", func(v *api.View) { v.Col = least }},
		{"visible", func(v *api.View) { v.Visible = !v.Visible }},
		{"no title", func(v *api.View) { v.Title = nil }},
		{"a shorter title", func(v *api.View) { v.Title = v.Title[:len(v.Title)-1] }},
		{"a longer title", func(v *api.View) { v.Title = append(v.Title, 0) }},
		{"first of the title", func(v *api.View) { v.Title[0]++ }},
		{"last of the title", func(v *api.View) { v.Title[len(v.Title)-1]-- }},
	}
	for name, by := range cellChanges() {
		l = append(l, changedView{"first cell: " + name, func(v *api.View) { by(&v.Grid.Cells[0]) }},
			changedView{"last cell: " + name, func(v *api.View) { by(&v.Grid.Cells[len(v.Grid.Cells)-1]) }})
	}
	return l
}

// someViews is views that have cells and a title, some of which may not be.
func someViews() []api.View {
	l := []api.View{viewOf("a"), viewOf("abc/d1. 1,1"), viewOf("W-X=/3,~_ 0,2 novisible")}
	strange := viewOf("abc/def 1,2")
	strange.Row, strange.Col, strange.Title = 9, -9, make([]rune, 300)
	l = append(l, strange)
	strange = apartView(strange)
	strange.Grid.Cols, strange.Title = -3, []rune{-1}
	return append(l, strange)
}

// P18.1: Same of views that are alike, and that differ in one field alone, either way about.
func TestSame(t *testing.T) {
	for _, v := range someViews() {
		if w := apartView(v); !Same(v, w) || !Same(w, v) || !Same(v, v) {
			t.Errorf("not the same: %s", tellingOfView(v))
		}
		for _, c := range viewChanges() {
			w := apartView(v)
			c.by(&w)
			if Same(v, w) || Same(w, v) {
				t.Errorf("%s: %s is the same as %s", c.name, tellingOfView(w), tellingOfView(v))
			}
			if x := apartView(w); !Same(x, w) {
				t.Errorf("%s: %s is not the same as itself", c.name, tellingOfView(w))
			}
		}
	}
}

// P18.1: Same of lists that are nil, and that are empty, with room behind their ends and without.
func TestSameLists(t *testing.T) {
	l := []api.View{{}, {Grid: api.Grid{Cells: []api.Cell{}}}, {Title: []rune{}}, {Grid: api.Grid{Cells: []api.Cell{}}, Title: []rune{}}, {Grid: api.Grid{Cells: make([]api.Cell, 0, 4)}, Title: make([]rune, 0, 4)}}
	for i, v := range l {
		for k, w := range l {
			if !Same(v, w) {
				t.Errorf("%d and %d are not the same", i, k)
			}
			w.Visible = true
			if Same(v, w) || Same(w, v) {
				t.Errorf("%d and %d are the same", i, k)
			}
		}
	}
	bare, empty := viewOf("abc"), viewOf("abc")
	bare.Title, empty.Title = nil, []rune{}
	if !Same(bare, empty) || !Same(empty, bare) {
		t.Error("no title is not the same as an empty one")
	}
	if Same(api.View{}, api.View{Grid: api.Grid{Cells: make([]api.Cell, 1)}}) || Same(api.View{}, api.View{Title: make([]rune, 1)}) {
		t.Error("an empty list is the same as one of zeros")
	}
}

// P18.1: Same of views whose grids may not be.
func TestSameBroken(t *testing.T) {
	v := viewOf("abc/d1. 1,1")
	for name, by := range brokenGrids() {
		w, x := apartView(v), apartView(v)
		by(&w.Grid)
		by(&x.Grid)
		if !Same(w, x) || Same(v, w) || Same(w, v) {
			t.Errorf("%s: %s", name, tellingOfView(w))
		}
	}
}

// checkDiffer holds the places at which views differ against those that they should, either way about.
func checkDiffer(t *testing.T, v, w api.View, want []int) {
	t.Helper()
	l, e := Differ(v, w)
	back, e2 := Differ(w, v)
	if e != api.OK || e2 != api.OK || !slices.Equal(l, want) || !slices.Equal(back, want) {
		t.Errorf("Differ(%s, %s) = %d, %d, and back %d, %d, not %d", tellingOfView(v), tellingOfView(w), l, e, back, e2, want)
	}
}

// P18.2: Differ of grids, by their pictures.
func TestDiffer(t *testing.T) {
	for _, c := range []struct {
		v, w string
		want []int
	}{
		{"a", "a", nil}, {"a", "b", []int{0}}, {".", "a", []int{0}}, {"abc/def", "abc/def", nil}, {"abc/def", "xbc/def", []int{0}}, {"abc/def", "abc/dex", []int{5}}, {"abc/def", "abc/xef", []int{3}}, {"abc/def", "xbc/xex", []int{0, 3, 5}},
		{"ab/cd/ef", "xy/zx/yz", []int{0, 1, 2, 3, 4, 5}}, {"abcdefghi", "aX=Defghi", []int{1, 2, 3}}, {"abc/def", "aby/zef", []int{2, 3}},
		// Looks and marks alone.
		{"abc", "aBc", []int{1}}, {"...", "._.", []int{1}}, {"...", "..~", []int{2}}, {"a1a", "a3a", []int{1}}, {"aaa", "aa1", []int{2}}, {"..", ",.", []int{0}},
		// Wide ones: a second half is of its first one's look, and nothing else.
		{"W-", "W-", nil}, {"W-", "F-", []int{0}}, {"W-", "M-", []int{0}}, {"W-", "X=", []int{0, 1}}, {"W-", "ab", []int{0, 1}}, {"aW-", "W-a", []int{0, 1, 2}}, {"W-.", ".W-", []int{0, 1, 2}}, {"W-W-", "aW-a", []int{0, 1, 2, 3}},
	} {
		v, w := viewOf(c.v), viewOf(c.w)
		checkDiffer(t, v, w, c.want)
		// What is no cell is of no weight.
		w.Row, w.Col, w.Visible, w.Title = greatest, least, !w.Visible, []rune{-1}
		checkDiffer(t, v, w, c.want)
	}
}

// P18.2: Differ of cells that differ in one field alone.
func TestDifferCells(t *testing.T) {
	for name, by := range cellChanges() {
		v := viewOf("abc/1W-/X=3 1,1")
		for at := range v.Grid.Cells {
			w := apartView(v)
			by(&w.Grid.Cells[at])
			l, e := Differ(v, w)
			want, wantE := slowDiffer(v, w)
			if e != wantE || !slices.Equal(l, want) || e == api.OK && !slices.Equal(l, []int{at}) {
				t.Errorf("%s at %d: %d, %d", name, at, l, e)
			}
		}
	}
	// Both halves of another look.
	v, w := viewOf("aW-b"), viewOf("aW-b")
	w.Grid.Cells[1].Style.Hidden, w.Grid.Cells[2].Style.Hidden = true, true
	checkDiffer(t, v, w, []int{1, 2})
}

// refuseDiffer is views of which Differ is to say nothing but that they may not be.
func refuseDiffer(t *testing.T, what string, v, w api.View) {
	t.Helper()
	if l, e := Differ(v, w); e != api.ErrArg || len(l) != 0 {
		t.Errorf("%s: Differ = %d, %d", what, l, e)
	}
}

// P18.2: Differ of views of unlike sizes, and of views whose grids may not be.
func TestDifferBroken(t *testing.T) {
	sizes := []string{"a", "ab", "a/b", "abc/def", "ab/cd/ef", "abcdef", "a/b/c/d/e/f"}
	for i, first := range sizes {
		for k, last := range sizes {
			if i != k {
				refuseDiffer(t, first+" "+last, viewOf(first), viewOf(last))
			}
		}
	}
	for _, v := range []api.View{viewOf("abc/d1. 1,1"), viewOf("abc/W-. 0,0")} {
		for name, by := range brokenGrids() {
			w := apartView(v)
			by(&w.Grid)
			refuseDiffer(t, name+" first", w, v)
			refuseDiffer(t, name+" second", v, w)
			refuseDiffer(t, name+" both", w, apartView(w))
		}
	}
	refuseDiffer(t, "none", api.View{}, api.View{})
	refuseDiffer(t, "none", api.View{Title: []rune("a")}, api.View{Grid: api.Grid{Cells: []api.Cell{}}})
}

// P18.2: Differ at the bounds of each side, nowhere, everywhere and at some places.
func TestDifferSizes(t *testing.T) {
	for _, c := range []struct{ cols, rows int }{{1, 1}, {512, 1}, {1, 512}, {512, 512}, {511, 3}, {80, 24}} {
		v, w := api.View{Grid: fresh(c.cols, c.rows).Grid}, api.View{Grid: fresh(c.cols, c.rows).Grid}
		checkSizes(t, v, w, nil)
		last := len(w.Grid.Cells) - 1
		w.Grid.Cells[last] = cellOf('a')
		checkSizes(t, v, w, []int{last})
		var all []int
		for at := range w.Grid.Cells {
			w.Grid.Cells[at] = cellOf('b')
			all = append(all, at)
		}
		checkSizes(t, v, w, all)
	}
}

func checkSizes(t *testing.T, v, w api.View, want []int) {
	t.Helper()
	if l, e := Differ(v, w); e != api.OK || !slices.Equal(l, want) {
		t.Errorf("%d columns, %d rows: %d places, %d, not %d of them", v.Grid.Cols, v.Grid.Rows, len(l), e, len(want))
	}
}

// P18.3: two views whose cells differ nowhere, with one cursor, one Visible, one title, are the same, and others are not.
func TestNowhere(t *testing.T) {
	var views []api.View
	for _, picture := range []string{"ab/c.", "ab/cd", "W-/1.", "X=/1."} {
		for i := range 16 {
			v := viewOf(picture)
			v.Row, v.Col, v.Visible, v.Title = i&1, i>>1&1, i&4 != 0, []rune(strconv.Itoa(i>>3))
			views = append(views, v)
		}
	}
	for i, v := range views {
		for k, w := range views {
			l, e := Differ(v, w)
			alike := len(l) == 0 && v.Row == w.Row && v.Col == w.Col && v.Visible == w.Visible && slices.Equal(v.Title, w.Title)
			if e != api.OK || Same(v, w) != alike || alike != (i == k) {
				t.Fatalf("%s\n%s: %d, the same: %t", tellingOfView(v), tellingOfView(w), l, Same(v, w))
			}
		}
	}
	v, w := seeOf(t, 9, 2, "ab&[1mc&]2;t\x07"), seeOf(t, 9, 2, "xyz&[Hab&[1mc&]0;t&\\&[4h&[?7l\xe4")
	if l, e := Differ(v, w); e != api.OK || len(l) != 0 || !Same(v, w) {
		t.Errorf("%s\n%s: %d, %d", tellingOfView(v), tellingOfView(w), l, e)
	}
}
