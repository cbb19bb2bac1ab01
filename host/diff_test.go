package host

import (
	"testing"

	"wayfarer/api"
	"wayfarer/screen"
)

// P22.2: equal states, whose difference is no more than it must be.
func TestDiffEqual(t *testing.T) {
	for _, base := range append(bases(), stateOf(".", 0), stateOf("W-", 1<<64-1), api.Host{Screen: fresh(80, 24), Echo: 3}) {
		for _, c := range append(borne(), changed{"nothing", func(s *api.Screen) {}}) {
			if c.name != "nothing" && len(base.Screen.Grid.Cells) != 6 {
				continue
			}
			h := changedBy(base, c.by)
			g := h.Screen.Grid
			if diff, want := checkDiff(t, h, stateApart(h)), diffOf(h.Echo, uint64(g.Cols), uint64(g.Rows), ""); string(diff) != string(want) {
				t.Errorf("%s: Diff = %q, not %q", c.name, textOf(diff), textOf(want))
			}
		}
	}
}

// P22.2: states that part in Echo alone.
func TestDiffEcho(t *testing.T) {
	for _, base := range bases() {
		for _, from := range echoes() {
			for _, to := range echoes() {
				a, b := base, base
				a.Echo, b.Echo = from, to
				if diff := checkDiff(t, a, b); string(diff) != string(diffOf(to, 3, 2, "")) {
					t.Errorf("%d to %d: Diff = %q", from, to, textOf(diff))
				}
			}
		}
	}
}

// P22.2: states that part in one thing of the screen alone, or in two.
func TestDiffEach(t *testing.T) {
	for _, base := range bases() {
		for _, c := range borne() {
			for _, d := range append(borne(), changed{"nothing", func(s *api.Screen) {}}) {
				a, b := changedBy(base, c.by), changedBy(base, d.by)
				checkDiff(t, a, b)
				b.Echo = ^b.Echo
				checkDiff(t, a, b)
			}
			other := changedBy(bases()[0], c.by)
			checkDiff(t, base, other)
			checkDiff(t, other, base)
		}
	}
}

// sized is a state behind a resize.
func sized(h api.Host, cols, rows int) api.Host {
	s, e := screen.Resize(h.Screen, cols, rows)
	if e != api.OK {
		panic("no such size")
	}
	h.Screen = s
	return h
}

// P22.2: states that part in size alone, in size and Echo, in size and whatever else.
func TestDiffSize(t *testing.T) {
	sizes := [][2]int{{1, 1}, {2, 1}, {1, 2}, {2, 3}, {3, 2}, {6, 1}, {1, 6}, {9, 1}, {17, 3}}
	for _, base := range bases() {
		for _, from := range sizes {
			a := sized(base, from[0], from[1])
			for _, to := range sizes {
				b := sized(a, to[0], to[1])
				if diff := checkDiff(t, a, b); string(diff) != string(diffOf(b.Echo, uint64(to[0]), uint64(to[1]), "")) {
					t.Errorf("%v to %v: Diff = %q", from, to, textOf(diff))
				}
				b.Echo++
				checkDiff(t, a, b)
				b = sized(base, to[0], to[1])
				checkDiff(t, a, b)
				b.Screen = titled(fresh(to[0], to[1]), []rune("tea"))
				b.Screen.Grid.Cells[0] = cellOf('A')
				b.Screen.Paste, b.Screen.Visible = true, false
				checkDiff(t, a, b)
				checkDiff(t, b, a)
			}
		}
		for _, c := range borne() {
			h := changedBy(base, c.by)
			for _, to := range sizes {
				checkDiff(t, h, stateOf(".W-a/abcd", 1))
				checkDiff(t, stateOf(".W-a/abcd 1,3", 1), h)
				checkDiff(t, h, sized(h, to[0], to[1]))
			}
		}
	}
}

// P22.2: the greatest sizes.
func TestDiffGreatSize(t *testing.T) {
	small := stateOf("aW-/X=1 1,2 paste", 2)
	long, high, greatest := sized(small, 512, 1), sized(small, 1, 512), sized(small, 512, 512)
	high.Screen.Grid.Cells[511], high.Screen.Row = cellOf('A'), 511
	long.Screen.Grid.Cells[511], long.Screen.Col = cellOf('A'), 511
	greatest.Screen.Grid.Cells[512*512-1], greatest.Screen.Row, greatest.Screen.Col = cellOf('A'), 511, 511
	for _, c := range [][2]api.Host{{small, long}, {long, small}, {small, high}, {high, small}, {high, long}, {long, high}, {small, greatest}, {greatest, small}, {greatest, greatest}, {high, greatest}} {
		checkDiff(t, c[0], c[1])
	}
}

// P22.2: a state that may not be first, second, both times.
func TestDiffRefused(t *testing.T) {
	for _, base := range bases() {
		for _, c := range append(unborne(), broken()...) {
			h := changedBy(base, c.by)
			checkNoDiff(t, h, base, api.ErrArg)
			checkNoDiff(t, base, h, api.ErrArg)
			checkNoDiff(t, h, h, api.ErrArg)
			checkNoDiff(t, h, stateOf("a", 1), api.ErrArg)
			checkNoDiff(t, stateOf("a", 1), h, api.ErrArg)
			checkNoDiff(t, h, api.Host{}, api.ErrArg)
		}
	}
	checkNoDiff(t, api.Host{}, api.Host{}, api.ErrArg)
}

// heavy is a style of which no part is as in the one of the next number.
func heavy(i int) api.Style {
	if i%2 == 0 {
		return flagged(255&^(i%256), 255-i%100, 101+i%150)
	}
	return flagged(i%256, 100+i%100, 250-i%150)
}

// laden is the state of a screen whose first cells, so many, have all that a cell may have, no two beside each other in one style.
func laden(cols, rows, count, from int) api.Host {
	s := fresh(cols, rows)
	for i := range count {
		s.Grid.Cells[i] = api.Cell{Char: 0x10ffff, Marks: [3]rune{0xe0100, 0xe01ef, 0xe0101}, Wide: 1, Style: heavy(i + from)}
	}
	s.Row, s.Col = rows-1, cols-1
	s.Arrows, s.Paste, s.Visible, s.Title = true, true, false, runes(254, 0x10ffff)
	return api.Host{Screen: s, Echo: 1<<64 - 1}
}

// P22.2: the greatest states whose difference fits whatever it is, as layer 19's bound and 30 more are no more than MaxBytes.
func TestDiffGreatest(t *testing.T) {
	t.Parallel()
	for _, size := range [][2]int{{394, 1}, {1, 394}, {197, 2}} {
		cols, rows := size[0], size[1]
		first, next := laden(cols, rows, cols*rows, 0), laden(cols, rows, cols*rows, 1)
		if most(first) > 65536 {
			t.Fatalf("%v is too great", size)
		}
		checkDiff(t, first, next)
		checkDiff(t, api.Host{Screen: fresh(cols, rows)}, first)
		checkDiff(t, first, api.Host{Screen: fresh(cols, rows)})
		checkDiff(t, stateOf("aW-", 1), first)
		checkDiff(t, sized(next, rows, cols), first)
		every := stateApart(first)
		for i := range every.Screen.Grid.Cells {
			if (i/cols+i)%2 == 0 {
				every.Screen.Grid.Cells[i] = next.Screen.Grid.Cells[i]
			}
		}
		checkDiff(t, first, every)
	}
}

// P22.2: ErrLimit of differences that are longer, alone, at whatever sizes there are.
func TestDiffLimit(t *testing.T) {
	t.Parallel()
	fit, long := 0, 0
	for _, size := range [][2]int{{395, 1}, {20, 20}, {80, 24}, {512, 512}} {
		cols, rows := size[0], size[1]
		to := laden(cols, rows, cols*rows, 0)
		for _, from := range []api.Host{{Screen: fresh(cols, rows)}, stateOf("a", 1)} {
			diff, e := Diff(from, to)
			if e != api.OK {
				long++
				checkNoDiff(t, from, to, api.ErrLimit)
				continue
			}
			fit++
			if len(diff) > 65536 {
				t.Errorf("%v: %d bytes", size, len(diff))
			}
			checkDiff(t, from, to)
			checkDiff(t, to, from)
		}
	}
	if fit == 0 || long == 0 {
		t.Errorf("%d differences fit, %d do not", fit, long)
	}
	// What is long to be told is left in few bytes.
	checkDiff(t, laden(80, 24, 80*24, 0), stateOf("a", 1))
	checkDiff(t, laden(512, 512, 512*512, 0), stateOf("a", 1))
}

// P22.2: a difference of MaxBytes bytes, and one of one more.
func TestDiffAtLimit(t *testing.T) {
	t.Parallel()
	from := api.Host{Screen: fresh(50, 30)}
	count := 1500
	bare := func(count int) api.Host {
		h := laden(50, 30, count, 0)
		h.Screen.Title = nil
		return h
	}
	for ; ; count-- {
		if diff, e := Diff(from, bare(count)); e == api.OK && len(diff) <= 65536-20 {
			break
		}
	}
	seen := map[int]bool{}
	for length := range 255 {
		to := bare(count)
		to.Screen.Title = runes(length, 'a')
		diff, e := Diff(from, to)
		if e != api.OK {
			checkNoDiff(t, from, to, api.ErrLimit)
			if !seen[65536] {
				t.Fatalf("a title of %d characters is refused, and no difference had 65536 bytes", length)
			}
			to.Echo = 0
			checkDiff(t, from, to)
			return
		}
		if len(diff) > 65536 {
			t.Fatalf("a difference has %d bytes", len(diff))
		}
		seen[len(diff)] = true
		if len(diff) == 65536 {
			checkDiff(t, from, to)
		}
	}
	t.Error("no difference is refused")
}
