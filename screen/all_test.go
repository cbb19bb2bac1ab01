package screen

import (
	"math"
	"strconv"
	"testing"

	"wayfarer/api"
)

// far is numbers at and past the edges of a side, and the farthest ones.
func far(side int) (l []int) {
	for n := -side - 1; n <= side+1; n++ {
		l = append(l, n)
	}
	return append(l, math.MinInt, math.MinInt+1, -1<<32, -1<<16, 1<<16, 1<<32, math.MaxInt-1, math.MaxInt)
}

// someDeeds is deeds of each kind, with arguments at and past the edges of a screen of a size.
func someDeeds(cols, rows int) (l []deed) {
	for _, c := range []rune{-5, 7, 0x301, 0xfe0f, 'x', 0xe9, wide, 0x1f600, 0x110000} {
		l = append(l, printOf(c))
	}
	for _, c := range []rune{-1, 7, 8, 9, 10, 11, 12, 13, 14, 140, 141, 142, 256 + 8, 1<<16 + 141} {
		l = append(l, controlOf(c))
	}
	for _, n := range far(rows) {
		l = append(l, moveOf(n, 0), moveOf(n, 1), placeOf(n, 0), placeOf(n, 1), linesOf(n), scrollOf(n), regionOf(0, n), regionOf(1, n), regionOf(n, 1))
	}
	for _, n := range far(cols) {
		l = append(l, moveOf(0, n), moveOf(-1, n), placeOf(0, n), placeOf(1, n), charsOf(n), wipeOf(n))
	}
	for kind := -1; kind <= 3; kind++ {
		l = append(l, eraseOf(false, kind), eraseOf(true, kind), tabOf(kind))
	}
	for _, n := range []int{-1, 1, 4, 6, 7, 25, 47, 1047, 1049, 2004} {
		for _, on := range []bool{false, true} {
			l = append(l, modeOf(false, n, on), modeOf(true, n, on))
		}
	}
	for _, more := range [][2]int{{0, 0}, {-1, 0}, {0, -1}, {1, 1}, {-1, 1}, {1, -1}, {-cols, 0}, {512 - cols + 1, 0}} {
		l = append(l, resizeOf(cols+more[0], rows+more[1]))
	}
	return append(l, keepOf(false), keepOf(true))
}

// stand tells each screen of a picture that differs by its cursor, its rows that scroll, or its modes.
func stand(picture string, tell func(s api.Screen)) {
	s := screenOf(picture)
	cols, rows := s.Grid.Cols, s.Grid.Rows
	for place := range rows * (cols + 1) {
		s.Row, s.Col = place/(cols+1), min(place%(cols+1), cols-1)
		s.Pend = place%(cols+1) == cols
		for s.Top = 0; s.Top < rows; s.Top++ {
			for s.Bottom = s.Top; s.Bottom < rows; s.Bottom++ {
				for modes := range 8 {
					s.Wrap, s.Insert, s.Origin = modes&1 != 0, modes&2 != 0, modes&4 != 0
					tell(s)
				}
			}
		}
	}
}

// checkSlow holds what d makes of s against what the words make of it.
func checkSlow(t *testing.T, s api.Screen, d deed) (api.Screen, api.Errno) {
	t.Helper()
	got, e := d.do(s)
	if want, wantE := d.slow(s); e != wantE || !equal(got, want) || e == api.OK && !slowMay(got) {
		check(t, d.String()+" of "+tellingOf(s), got, e, want, wantE)
	}
	return got, e
}

// P16.2 to P16.9: each deed at each place of small screens, with each of the rows that scroll and of the modes, held against the words read slowly.
func TestAll(t *testing.T) {
	for _, picture := range []string{"a", "a/b", "a/b/c", "W-", "ab/X=", "aW-/X=b", "W-3/.N=/abc", "aX=d", "W-X=/aM-1"} {
		t.Run(picture[:1]+strconv.Itoa(len(picture)), func(t *testing.T) {
			t.Parallel()
			g := gridOf(picture)
			deeds := someDeeds(g.Cols, g.Rows)
			stand(picture, func(s api.Screen) {
				for _, d := range deeds {
					checkSlow(t, s, d)
				}
			})
		})
	}
}

// P16.9: Keep, and Keep back, change nothing but Saved.
func TestKeepAndBack(t *testing.T) {
	stand("W-3/.N=/abc", func(s api.Screen) {
		kept, e := Keep(s, false)
		back, e2 := Keep(kept, true)
		if e != api.OK || e2 != api.OK || !equal(kept, back) {
			t.Fatalf("%s, kept and back: %s, %d, %d", tellingOf(s), tellingOf(back), e, e2)
		}
		if back.Saved == s.Saved {
			t.Fatalf("%s: nothing was kept", tellingOf(s))
		}
		back.Saved = s.Saved
		if !equal(back, s) {
			t.Fatalf("%s, kept and back: %s", tellingOf(s), tellingOf(back))
		}
	})
}

// rowsOf tells all rows of so many of some deeds.
func rowsOf(deeds []deed, count int, tell func(l []deed)) {
	l := make([]deed, count)
	var lay func(at int)
	lay = func(at int) {
		if at == count {
			tell(l)
			return
		}
		for _, d := range deeds {
			l[at] = d
			lay(at + 1)
		}
	}
	lay(0)
}

// checkRow does deeds one behind the other, by the program and by the words.
func checkRow(t *testing.T, s api.Screen, l []deed) {
	t.Helper()
	for _, d := range l {
		s, _ = checkSlow(t, s, d)
	}
}

// P16.7: all short rows of changes of the grid that is shown, with something drawn, the cursor kept, the size changed between.
func TestAllAlt(t *testing.T) {
	deeds := []deed{
		modeOf(true, 47, true), modeOf(true, 47, false), modeOf(true, 1047, true), modeOf(true, 1047, false), modeOf(true, 1049, true), modeOf(true, 1049, false),
		printOf('x'), keepOf(false), resizeOf(2, 2),
	}
	rowsOf(deeds, 4, func(l []deed) {
		checkRow(t, screenOf("aW-/X=b 0,2+"), l)
	})
}

// P16.2, P16.3: all short texts, with feeds and returns in them, on small screens.
func TestAllTexts(t *testing.T) {
	deeds := []deed{printOf('x'), printOf(wide), printOf(0x301), controlOf(8), controlOf(9), controlOf(10), controlOf(13), controlOf(141)}
	for _, from := range []string{"a/b 0,0", "ab/cd 0,1", "aW-/bcd 1,2+", "abc/def/ghi 1,1 0-1 insert", "abc/def 0,2+ nowrap"} {
		rowsOf(deeds, 4, func(l []deed) {
			checkRow(t, screenOf(from), l)
		})
	}
}

// P16.8: all short rows of tabulators.
func TestAllTabs(t *testing.T) {
	deeds := []deed{tabOf(0), tabOf(1), tabOf(2), controlOf(9), controlOf(8), controlOf(13), moveOf(0, 1)}
	for _, from := range []string{"abcd 0,0 t", "abcd 0,3+ t1,3", "abcdefghia 0,5"} {
		rowsOf(deeds, 4, func(l []deed) {
			checkRow(t, screenOf(from), l)
		})
	}
}

// chance is a deed that looks like chance.
func chance(n *noise, s api.Screen) deed {
	cols, rows := s.Grid.Cols, s.Grid.Rows
	switch n.below(8) {
	case 0:
		return pick(n, someDeeds(cols, rows))
	case 1:
		return controlOf(pick(n, []rune{8, 9, 10, 13, 141}))
	case 2:
		return placeOf(n.below(rows+1), n.below(cols+1))
	case 3:
		if n.below(10) == 0 {
			return resizeOf(n.below(12), n.below(7))
		}
		return regionOf(n.below(rows), n.below(rows))
	}
	return printOf(pick(n, []rune{'x', 'y', 0xe9, wide, wide, 0x1f600, 0x301, 0x302, 7}))
}

// P16.9: what may be, may be behind each of many deeds, one behind the other.
func TestManyDeeds(t *testing.T) {
	n := noise(16)
	wides, pends, alts, refused := 0, 0, 0, 0
	for range 200 {
		s, e := New(1+n.below(9), 1+n.below(6))
		if e != api.OK {
			t.Fatalf("New = %d", e)
		}
		for range 150 {
			if n.below(20) == 0 {
				s.Style = pick(&n, []api.Style{plain(), ground(), under(), {Fg: 255, Bg: 255}})
			}
			d := chance(&n, s)
			got, e := checkSlow(t, s, d)
			if e != api.OK {
				refused++
				continue
			}
			if !May(got) {
				t.Fatalf("%s of %s made %s", d, tellingOf(s), tellingOf(got))
			}
			s = got
			for _, c := range s.Grid.Cells {
				if c.Wide == 2 {
					wides++
					break
				}
			}
			if s.Pend {
				pends++
			}
			if s.Alt {
				alts++
			}
		}
	}
	if wides < 5000 || pends < 2000 || alts < 2000 || refused < 50 {
		t.Errorf("%d with a wide character, %d pending, %d with the other grid, %d refused", wides, pends, alts, refused)
	}
}

// P16.2 to P16.8: the greatest screen, at its corners.
func TestGreatest(t *testing.T) {
	s := fresh(t, 512, 512)
	for _, d := range []deed{
		placeOf(greatest, greatest), printOf('x'), printOf('y'), moveOf(0, greatest), printOf(wide), tabOf(0), keepOf(false), controlOf(141), moveOf(least, least), linesOf(1), linesOf(greatest), linesOf(least),
		placeOf(511, 510), printOf(wide), printOf(0x301), eraseOf(false, 1), charsOf(511), wipeOf(512), regionOf(510, 511), scrollOf(1), modeOf(true, 1049, true), eraseOf(true, 2), resizeOf(1, 512), resizeOf(512, 1), resizeOf(512, 512), resizeOf(513, 512),
	} {
		got, e := d.do(s)
		want, wantE := d.slow(s)
		if e != wantE || !Same(got, want) || (e == api.OK) != May(got) {
			t.Fatalf("%s = %d", d, e)
		}
		if e == api.OK {
			s = got
		}
	}
}
