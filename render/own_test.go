package render

import (
	"slices"
	"testing"

	"wayfarer/api"
)

// roomyList is a list with room behind its end, which has elements of its own.
func roomyList[T any](l []T, behind T) []T {
	r := append(make([]T, 0, len(l)+5), l...)
	for range 5 {
		r = append(r, behind)
	}
	return r[:len(l)]
}

// roomy is s with such lists.
func roomy(s api.Screen) api.Screen {
	s.Grid.Cells, s.Main.Cells = roomyList(s.Grid.Cells, cellOf('e')), roomyList(s.Main.Cells, cellOf('f'))
	s.Tabs, s.Title = roomyList(s.Tabs, 7), roomyList(s.Title, 'e')
	return s
}

// toEnd is s with its lists up to the end of their room.
func toEnd(s api.Screen) api.Screen {
	s.Grid.Cells, s.Main.Cells = s.Grid.Cells[:cap(s.Grid.Cells)], s.Main.Cells[:cap(s.Main.Cells)]
	s.Tabs, s.Title = s.Tabs[:cap(s.Tabs)], s.Title[:cap(s.Title)]
	return s
}

// spoilList makes all of a list something else, the room behind its end too.
func spoilList[T any](l []T, by T) {
	l = l[:cap(l)]
	for i := range l {
		l[i] = by
	}
}

func spoil(s api.Screen) {
	spoilList(s.Grid.Cells, api.Cell{Char: 'z', Wide: 7})
	spoilList(s.Main.Cells, api.Cell{Char: 'z', Wide: 8})
	spoilList(s.Tabs, -77)
	spoilList(s.Title, -88)
}

// owned is pairs of screens that have something in each list, rendered and refused, some of them twice the same one.
func owned() [][2]api.Screen {
	s := odd(screenOf("aW-d/X=1./,.~_ 1,3"))
	to := titled(wild(screenOf("abcd/xX=y/1..c 2,1")), []rune("tea"))
	broken := apart(s)
	broken.Grid.Cells[1] = cellOf('a')
	return [][2]api.Screen{{s, to}, {s, s}, {s, titled(to, []rune{7})}, {titled(s, nil), to}, {s, become(s, "X=1./aW-d/....")}, {to, s}, {s, broken}, {broken, s}, {s, odd(fresh(2, 2))}}
}

// P19.1: what After is handed stays as it is, the room behind its lists' ends too, and it shares no memory with what is answered, nor do two answers, nor two lists of one.
func TestOwnAfter(t *testing.T) {
	for i, c := range owned() {
		from, to := roomy(c[0]), roomy(c[1])
		first, e := After(from, to)
		other, e2 := After(from, to)
		kept := apart(other)
		if e != e2 || !equal(first, other) {
			t.Fatalf("%d: %s, %d, and then %s, %d", i, tellingOf(first), e, tellingOf(other), e2)
		}
		spoil(first)
		if !equal(other, kept) {
			t.Errorf("%d: two answers share memory", i)
		}
		if !equal(toEnd(from), toEnd(roomy(c[0]))) || !equal(toEnd(to), toEnd(roomy(c[1]))) {
			t.Errorf("%d: what was handed in did not stay as it was", i)
		}
		spoil(from)
		spoil(to)
		if !equal(other, kept) {
			t.Errorf("%d: an answer shares memory with what was handed in", i)
		}
	}
	from, to := owned()[0][0], owned()[0][1]
	want, _ := After(from, to)
	for i, f := range []func(s *api.Screen){
		func(s *api.Screen) { spoilList(s.Grid.Cells, api.Cell{}); s.Grid.Cells = want.Grid.Cells },
		func(s *api.Screen) { spoilList(s.Main.Cells, api.Cell{}); s.Main.Cells = want.Main.Cells },
		func(s *api.Screen) { spoilList(s.Tabs, -1); s.Tabs = want.Tabs },
		func(s *api.Screen) { spoilList(s.Title, -1); s.Title = want.Title },
	} {
		s, _ := After(from, to)
		f(&s)
		if !equal(s, want) {
			t.Errorf("list %d of an answer shares memory with another one", i)
		}
	}
}

// P19.1: screens that share their lists, and one screen twice.
func TestOwnTwice(t *testing.T) {
	s := roomy(odd(screenOf("aW-d/X=1. 1,3")))
	want := apart(s)
	after, e := After(s, s)
	b, e2 := Render(s, s)
	if e != api.OK || e2 != api.OK || len(b) != 0 || !equal(after, want) {
		t.Fatalf("%s, %d; %q, %d", tellingOf(after), e, textOf(b), e2)
	}
	spoil(s)
	if !equal(after, want) {
		t.Error("an answer shares memory with what was handed in")
	}
}

// P19.2: likewise of Render.
func TestOwnRender(t *testing.T) {
	for i, c := range owned() {
		from, to := roomy(c[0]), roomy(c[1])
		first, e := Render(from, to)
		other, e2 := Render(from, to)
		kept := slices.Clone(other)
		if e != e2 || !slices.Equal(first, other) {
			t.Fatalf("%d: %q, %d, and then %q, %d", i, textOf(first), e, textOf(other), e2)
		}
		if bare, bareE := Render(apart(c[0]), apart(c[1])); bareE != e || !slices.Equal(bare, first) {
			t.Errorf("%d: what lies behind the ends is of weight", i)
		}
		spoilList(first, 'z')
		if !slices.Equal(other, kept) {
			t.Errorf("%d: two answers share memory", i)
		}
		if !equal(toEnd(from), toEnd(roomy(c[0]))) || !equal(toEnd(to), toEnd(roomy(c[1]))) {
			t.Errorf("%d: what was handed in did not stay as it was", i)
		}
		spoil(from)
		spoil(to)
		if !slices.Equal(other, kept) {
			t.Errorf("%d: an answer shares memory with what was handed in", i)
		}
	}
}

// P19.3: likewise of Start.
func TestOwnStart(t *testing.T) {
	first, _ := Start(3, 2)
	other, _ := Start(3, 2)
	kept := slices.Clone(other)
	spoilList(first, 'z')
	last, e := Start(3, 2)
	if e != api.OK || !slices.Equal(other, kept) || !slices.Equal(last, kept) {
		t.Errorf("%q, %q", textOf(other), textOf(last))
	}
}

func full() api.Screen {
	s := fresh(80, 24)
	for i := range s.Grid.Cells {
		s.Grid.Cells[i] = cellOf("abcdeABC.1"[i*7/3%10])
	}
	return s
}

func BenchmarkRender(b *testing.B) {
	from, to := fresh(80, 24), full()
	for b.Loop() {
		Render(from, to)
	}
}

func BenchmarkRenderOne(b *testing.B) {
	from, to := full(), full()
	to.Grid.Cells[1000] = cellOf('z')
	for b.Loop() {
		Render(from, to)
	}
}

func BenchmarkRenderLargest(b *testing.B) {
	from, to := laden(512, 512, 1, false), laden(512, 512, 0, false)
	for b.Loop() {
		Render(from, to)
	}
}
