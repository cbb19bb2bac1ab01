package keys

import (
	"math"
	"slices"
	"strings"
	"testing"

	"wayfarer/api"
)

// checkAll holds All to an answer.
func checkAll(t *testing.T, s api.Screen, l []api.Event, want string, e api.Errno) {
	t.Helper()
	got, err := All(s, l...)
	if string(got) != want || err != e {
		t.Errorf("All(arrows %t, paste %t, %d events) = %q, %d, want %q, %d", s.Arrows, s.Paste, len(l), short(string(got)), err, short(want), e)
	}
}

// P20.1: answers by hand, in each pair of modes, on new screens and on one that has little of a new one.
func TestAll(t *testing.T) {
	for _, c := range []struct {
		l    []api.Event
		want [4]string // without either, with arrows, with paste, with both
	}{
		{nil, [4]string{}},
		{listed(), [4]string{}},
		{listed(sized(80, 24)), [4]string{}},
		{listed(sized(80, 24), sized(1, 1)), [4]string{}},
		{listed(typed("a")), [4]string{"a", "a", "a", "a"}},
		{listed(arrow('D')), [4]string{"\x1b[D", "\x1bOD", "\x1b[D", "\x1bOD"}},
		{listed(pasted("x\n")), [4]string{"x\r", "x\r", ahead + "x\r" + behind, ahead + "x\r" + behind}},
		{listed(pasted("")), [4]string{"", "", ahead + behind, ahead + behind}},
		{listed(pasted("\x1b"), pasted("\x1b")), [4]string{"", "", ahead + behind + ahead + behind, ahead + behind + ahead + behind}},
		{listed(typed("a\n"), sized(2, 3), arrow('A'), pasted("x\x1b"), typed("b")), [4]string{"a\n\x1b[Axb", "a\n\x1bOAxb", "a\n\x1b[A" + ahead + "x" + behind + "b", "a\n\x1bOA" + ahead + "x" + behind + "b"}},
		{listed(arrow('A'), arrow('B'), arrow('C'), arrow('D')), [4]string{"\x1b[A\x1b[B\x1b[C\x1b[D", "\x1bOA\x1bOB\x1bOC\x1bOD", "\x1b[A\x1b[B\x1b[C\x1b[D", "\x1bOA\x1bOB\x1bOC\x1bOD"}},
	} {
		for i, mode := range modes() {
			for _, s := range []api.Screen{fresh(t, 1, 1), fresh(t, 80, 24), laden(t)} {
				checkAll(t, inModes(s, mode), c.l, c.want[i], api.OK)
			}
		}
	}
}

// P20.1: one event is told as Encode tells it, in the modes of the screen.
func TestAllOne(t *testing.T) {
	s := laden(t)
	l := listed(sized(1, 1), sized(512, 512), pasted(""), typed(strings.Repeat("\x1b", 4096)), pasted(strings.Repeat("\n", 4096)), pasted(strings.Repeat("\x9b", 4096)))
	for letter := byte('A'); letter <= 'D'; letter++ {
		l = append(l, arrow(letter))
	}
	for _, text := range tough() {
		l = append(l, typed(text), pasted(text))
	}
	for _, x := range append(l, broken()...) {
		for _, mode := range modes() {
			want, e := Encode(x, mode[0], mode[1])
			checkAll(t, inModes(s, mode), listed(x), string(want), e)
		}
	}
}

// P20.1: many events, more of them and more bytes than a log or a form of events has.
func TestAllMany(t *testing.T) {
	s := inModes(fresh(t, 3, 2), [2]bool{true, true})
	for _, count := range []int{4095, 4096, 4097, 70000} {
		checkAll(t, s, slices.Repeat(listed(arrow('C')), count), strings.Repeat("\x1bOC", count), api.OK)
		checkAll(t, s, slices.Repeat(listed(sized(3, 2)), count), "", api.OK)
	}
	text := strings.Repeat("a\x1b\n\x9b", 1024)
	clean := ahead + strings.Repeat("a\r", 1024) + behind
	checkAll(t, s, slices.Repeat(listed(typed(text), pasted(text)), 200), strings.Repeat(text+clean, 200), api.OK)
}

// P20.1: an event that may not be, first, last and in the middle.
func TestAllBroken(t *testing.T) {
	s := laden(t)
	ways := listed(typed("a"), pasted("b"), arrow('A'))
	for _, x := range broken() {
		for at := range len(ways) + 1 {
			checkAll(t, inModes(s, modes()[at]), slices.Insert(slices.Clone(ways), at, x), "", api.ErrArg)
		}
		checkAll(t, s, listed(x, x), "", api.ErrArg)
	}
	long := slices.Repeat(ways, 3000)
	for _, at := range []int{0, 1, 4095, 4096, 4097, len(long) - 1, len(long)} {
		checkAll(t, s, slices.Insert(slices.Clone(long), at, arrow('E')), "", api.ErrArg)
	}
}

// brokenScreens is screens that may not be, each by one thing.
func brokenScreens(t *testing.T) (l []api.Screen) {
	for _, spoilt := range []func(s *api.Screen){
		func(s *api.Screen) { *s = api.Screen{} },
		func(s *api.Screen) { s.Grid = api.Grid{} },
		func(s *api.Screen) { s.Grid.Cells = s.Grid.Cells[1:] },
		func(s *api.Screen) { s.Grid.Cells = append(s.Grid.Cells, s.Grid.Cells[0]) },
		func(s *api.Screen) { s.Grid.Cells = nil },
		func(s *api.Screen) { s.Grid.Cells[0] = api.Cell{} },
		func(s *api.Screen) { s.Grid.Cells[len(s.Grid.Cells)-1].Style.Bg = 256 },
		func(s *api.Screen) { s.Grid.Cols = -s.Grid.Cols; s.Grid.Rows = -s.Grid.Rows },
		func(s *api.Screen) { s.Grid.Cols = math.MaxInt },
		func(s *api.Screen) { s.Row = -1 },
		func(s *api.Screen) { s.Row = s.Grid.Rows },
		func(s *api.Screen) { s.Col = math.MinInt },
		func(s *api.Screen) { s.Col = s.Grid.Cols },
		func(s *api.Screen) { s.Col, s.Pend = 0, true },
		func(s *api.Screen) { s.Style.Fg = -2 },
		func(s *api.Screen) { s.Top = -1 },
		func(s *api.Screen) { s.Top, s.Bottom = 2, 1 },
		func(s *api.Screen) { s.Bottom = s.Grid.Rows },
		func(s *api.Screen) { s.Tabs = []int{3, 3} },
		func(s *api.Screen) { s.Tabs = []int{-1} },
		func(s *api.Screen) { s.Tabs = []int{s.Grid.Cols} },
		func(s *api.Screen) { s.Saved.Row = s.Grid.Rows },
		func(s *api.Screen) { s.Saved.Col, s.Saved.Pend = 0, true },
		func(s *api.Screen) { s.Saved.Style.Bg = 256 },
		func(s *api.Screen) { s.Alt = !s.Alt },
		func(s *api.Screen) { s.Main.Cols++ },
		func(s *api.Screen) { s.Title = make([]rune, 257) },
		func(s *api.Screen) { s.Title = []rune{-1} },
	} {
		for _, s := range []api.Screen{fresh(t, 9, 3), laden(t)} {
			s = apart(s)
			spoilt(&s)
			l = append(l, s)
		}
	}
	return l
}

// P20.1: a screen that may not be, with events and with none.
func TestAllBrokenScreen(t *testing.T) {
	for _, s := range brokenScreens(t) {
		for _, mode := range modes() {
			s := inModes(s, mode)
			checkAll(t, s, nil, "", api.ErrArg)
			checkAll(t, s, listed(), "", api.ErrArg)
			checkAll(t, s, listed(sized(80, 24)), "", api.ErrArg)
			checkAll(t, s, listed(typed("a"), arrow('A'), pasted("b")), "", api.ErrArg)
			checkAll(t, s, listed(typed("")), "", api.ErrArg)
		}
	}
}

// P20.1: no other mode of the screen is asked for.
func TestAllOtherModes(t *testing.T) {
	l := listed(arrow('A'), pasted("a\n"), typed("\n"))
	for bits := range 32 {
		for _, mode := range modes() {
			s := inModes(fresh(t, 9, 3), mode)
			s.Wrap, s.Origin, s.Insert, s.Visible, s.Saved.Origin = bits&1 != 0, bits&2 != 0, bits&4 != 0, bits&8 != 0, bits&16 != 0
			want, e := slowAll(s, l)
			checkAll(t, s, l, want, e)
		}
	}
}

// P20.2: events in two parts give the bytes of both, wherever they are cut.
func TestAllParts(t *testing.T) {
	n := noise(202)
	for range 1000 {
		s := inModes(laden(t), pick(&n, modes()))
		var l []api.Event
		for range n.below(12) {
			l = append(l, someEvent(&n))
		}
		want, e := slowAll(s, l)
		checkAll(t, s, l, want, e)
		for at := range len(l) + 1 {
			first, firstE := All(s, l[:at]...)
			second, secondE := All(s, l[at:]...)
			if e == api.OK && (string(first)+string(second) != want || firstE != api.OK || secondE != api.OK) {
				t.Fatalf("%q and %q are not %q", first, second, want)
			}
			if e != api.OK && firstE == api.OK && secondE == api.OK {
				t.Fatal("no part has the event that may not be")
			}
		}
	}
}
