package model

import (
	"slices"
	"testing"

	"wayfarer/api"
	"wayfarer/screen"
)

// rowsOf is all pictures of a row of so many signs that may be, by halves of wide ones.
func rowsOf(count int, signs string) (l []string) {
	var lay func(picture string)
	lay = func(picture string) {
		if len(picture) < count {
			for _, sign := range []byte(signs) {
				lay(picture + string(sign))
			}
			return
		}
		if screen.May(api.Screen{Grid: gridOf(picture)}) {
			l = append(l, picture)
		}
	}
	lay("")
	return l
}

// checkSlow holds what is told of a screen against the words read slowly.
func checkSlow(t *testing.T, s api.Screen) api.View {
	t.Helper()
	v, e := See(s)
	if want, wantE := slowSee(s); e != wantE || !equalViews(v, want) {
		t.Fatalf("See(%s)\n= %s, %d\nnot %s, %d", tellingOf(s), tellingOfView(v), e, tellingOfView(want), wantE)
	}
	if Tame(s) != slowTame(s) {
		t.Fatalf("Tame(%s) = %t", tellingOf(s), Tame(s))
	}
	text, e := Text(s)
	if want, wantE := slowText(s); text != want || e != wantE {
		t.Fatalf("Text(%s) = %q, %d, not %q, %d", tellingOf(s), text, e, want, wantE)
	}
	return v
}

// checkBoth holds what is told of two views against the words read slowly.
func checkBoth(t *testing.T, v, w api.View) {
	t.Helper()
	l, e := Differ(v, w)
	want, wantE := slowDiffer(v, w)
	if e != wantE || !slices.Equal(l, want) {
		t.Fatalf("Differ(%s, %s) = %d, %d, not %d, %d", tellingOfView(v), tellingOfView(w), l, e, want, wantE)
	}
	if Same(v, w) != equalViews(v, w) {
		t.Fatalf("Same(%s, %s) = %t", tellingOfView(v), tellingOfView(w), Same(v, w))
	}
}

// P18.1, P18.2: all short rows of cells, and all pairs of them.
func TestAllRows(t *testing.T) {
	t.Parallel()
	for _, picture := range rowsOf(4, ".~,a1W-X=_") {
		checkSlow(t, screenOf(picture))
	}
	rows := rowsOf(3, ".,aAW-M=X")
	views := make([]api.View, len(rows))
	for i, picture := range rows {
		views[i] = checkSlow(t, screenOf(picture))
	}
	for _, v := range views {
		for _, w := range views {
			checkBoth(t, v, w)
		}
	}
}

// P18.1, P18.2: all pictures of two rows.
func TestAllPictures(t *testing.T) {
	t.Parallel()
	rows := rowsOf(3, ".~,aW-")
	for _, first := range rows {
		for _, last := range rows {
			checkSlow(t, screenOf(first+"/"+last))
		}
	}
}

// P18.1: all cursors, rows that scroll and modes of a small screen.
func TestAllStands(t *testing.T) {
	t.Parallel()
	const cols, rows = 2, 3
	for i := range cols * rows * rows * rows * 256 {
		s := screenOf("ab/1./W-")
		place, modes := i%(cols*rows), i/(cols*rows*rows*rows)
		s.Row, s.Col = place/cols, place%cols
		s.Top, s.Bottom = i/(cols*rows)%rows, i/(cols*rows*rows)%rows
		s.Pend, s.Wrap, s.Origin, s.Insert = modes&1 != 0, modes&2 != 0, modes&4 != 0, modes&8 != 0
		s.Visible, s.Arrows = modes&16 != 0, modes&16 == 0
		if modes&32 != 0 {
			s.Style.Italic = true
		}
		if modes&64 != 0 {
			s.Alt, s.Main = true, gridOf("xy/yx/zz")
		}
		if modes&128 != 0 {
			s.Saved.Style.Fg = 256
		}
		checkSlow(t, s)
	}
}

// scraps is what bytes that look like chance are put together of.
func scraps() []string {
	return []string{
		"a", "b", " ", "  ", "\u00e9", "\u4e2d", "\U0001f600", "\u0301", "\u0302", "\r", "\n", "\t", "\b", "\xff", "\xe4", "\xb8", "\xf0\x9f", "\x00", "\x7f",
		"&", "&[", "&[m", "&[1;31m", "&[41m", "&[K", "&[2J", "&[H", "&[2;3H", "&[A", "&[C", "&[2L", "&[M", "&[@", "&[2P", "&[X", "&[S", "&[T",
		"&[?25l", "&[?25h", "&[?7l", "&[?7h", "&[4h", "&[4l", "&[?6h", "&[?6l", "&[2;3r", "&[r", "&[?1049h", "&[?1049l", "&[?47h", "&7", "&8", "&c", "&H", "&[3g", "&[6n",
		"&]2;", "&]0;t\x07", "tea\x07", "&\\", "\x18",
	}
}

// P18.1 to P18.3: bytes that look like chance, on screens of many sizes.
func TestChance(t *testing.T) {
	t.Parallel()
	n := noise(1)
	for range 1500 {
		cols, rows := 1+n.below(6), 1+n.below(4)
		text := ""
		for range n.below(40) {
			text += pick(&n, scraps())
		}
		s := of(t, cols, rows, text)
		if want, e := slowOf(cols, rows, bytesOf(text)); e != api.OK || !equal(s, want) {
			t.Fatalf("Of(%d, %d, %q)\n= %s\nnot %s", cols, rows, text, tellingOf(s), tellingOf(want))
		}
		v := checkSlow(t, s)
		for range 5 {
			text += pick(&n, scraps())
			w := checkSlow(t, of(t, cols, rows, text))
			checkBoth(t, v, w)
			checkBoth(t, w, v)
			l, _ := Differ(v, w)
			if len(l) == 0 && v.Row == w.Row && v.Col == w.Col && v.Visible == w.Visible && slices.Equal(v.Title, w.Title) != Same(v, w) {
				t.Fatalf("%q: cells that differ nowhere, and not the same", text)
			}
		}
	}
}
