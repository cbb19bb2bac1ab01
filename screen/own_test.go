package screen

import (
	"testing"

	"wayfarer/api"
)

// roomyList is a list with room behind its end, which has elements of its own.
func roomyList[T any](l []T, behind T) []T {
	r := make([]T, 0, len(l)+5)
	r = append(r, l...)
	for range 5 {
		r = append(r, behind)
	}
	return r[:len(l)]
}

// roomy is s with such lists.
func roomy(s api.Screen) api.Screen {
	s.Grid.Cells, s.Main.Cells = roomyList(s.Grid.Cells, cellOf('e')), roomyList(s.Main.Cells, cellOf('f'))
	s.Tabs, s.Title = roomyList(s.Tabs, 7), roomyList(s.Title, 'e')
	return s
}

// toEnd is s with its lists up to the end of their room.
func toEnd(s api.Screen) api.Screen {
	s.Grid.Cells, s.Main.Cells = s.Grid.Cells[:cap(s.Grid.Cells)], s.Main.Cells[:cap(s.Main.Cells)]
	s.Tabs, s.Title = s.Tabs[:cap(s.Tabs)], s.Title[:cap(s.Title)]
	return s
}

func spoilList[T any](l []T, by T) {
	for i := range l {
		l[i] = by
	}
}

// spoilers is, for each list of a screen, what makes all of it something else, the room behind its end too.
func spoilers() []func(s api.Screen) {
	return []func(s api.Screen){
		func(s api.Screen) { spoilList(toEnd(s).Grid.Cells, api.Cell{Char: 'z', Wide: 7}) },
		func(s api.Screen) { spoilList(toEnd(s).Main.Cells, api.Cell{Char: 'z', Wide: 8}) },
		func(s api.Screen) { spoilList(toEnd(s).Tabs, -77) },
		func(s api.Screen) { spoilList(toEnd(s).Title, -88) },
	}
}

func spoil(s api.Screen) {
	for _, f := range spoilers() {
		f(s)
	}
}

// without is s without one of its lists, by its number among the spoilers.
func without(s api.Screen, list int) api.Screen {
	switch list {
	case 0:
		s.Grid.Cells = nil
	case 1:
		s.Main.Cells = nil
	case 2:
		s.Tabs = nil
	case 3:
		s.Title = nil
	}
	return s
}

// owned is screens that have something in each list, with the other grid shown and without.
func owned() []api.Screen {
	s := screenOf("aW-d/X=3e/ghia 1,3+ 0-1 t0,1,3")
	alt := apart(s)
	alt.Alt, alt.Main = true, gridOf("abcd/eW-f/12.3")
	inner := become(alt, "= 1,1 t0,2")
	return []api.Screen{s, become(s, "= 1,1 insert"), alt, inner}
}

// P16.2 to P16.8: what is handed in stays as it is, the room behind its end too, and what is answered shares no memory with it, with another answer, or with another list of one answer.
func TestOwn(t *testing.T) {
	for _, from := range owned() {
		for _, d := range append(someDeeds(4, 3), resizeOf(0, 1)) {
			s := roomy(from)
			first, e := d.do(s)
			second, e2 := d.do(s)
			if e != e2 || !equal(first, second) {
				t.Fatalf("%s answers %s, %d, and then %s, %d", d, tellingOf(first), e, tellingOf(second), e2)
			}
			kept := apart(second)
			spoil(first)
			if !equal(second, kept) {
				t.Errorf("%s: two answers share memory", d)
			}
			for list, f := range spoilers() {
				f(second)
				if !equal(without(second, list), without(kept, list)) {
					t.Errorf("%s: two lists of an answer share memory", d)
				}
				second = apart(kept)
			}
			third, _ := d.do(s)
			spoil(third)
			if !equal(toEnd(s), toEnd(roomy(from))) {
				t.Errorf("%s: what was handed in did not stay as it was", d)
			}
			// What is handed in and changed behind the call changes no answer.
			fourth, _ := d.do(s)
			kept = apart(fourth)
			spoil(s)
			if !equal(fourth, kept) {
				t.Errorf("%s: an answer shares memory with what was handed in", d)
			}
		}
	}
}

// P16.1: May and Same change nothing, and two new screens share nothing.
func TestOwnOthers(t *testing.T) {
	for _, from := range owned() {
		s, u := roomy(from), roomy(from)
		if !May(s) || !Same(s, u) || !equal(toEnd(s), toEnd(roomy(from))) || !equal(toEnd(u), toEnd(roomy(from))) {
			t.Errorf("%s did not stay as it was", tellingOf(from))
		}
	}
	first, second := fresh(t, 20, 2), fresh(t, 20, 2)
	kept := apart(second)
	spoil(first)
	if !equal(second, kept) {
		t.Error("two new screens share memory")
	}
}

// P16.2 to P16.8: what lies behind the ends of the lists is of no weight.
func TestRoom(t *testing.T) {
	for _, from := range owned() {
		for _, d := range someDeeds(4, 3) {
			got, e := d.do(roomy(from))
			want, wantE := d.do(apart(from))
			check(t, d.String()+" with room", got, e, want, wantE)
		}
	}
}

func full() api.Screen {
	s, _ := New(80, 24)
	for i := range s.Grid.Cells {
		s.Grid.Cells[i] = cellOf("abcdeABC."[i%9])
	}
	return s
}

func benchmark(b *testing.B, d deed) {
	s := full()
	s.Row, s.Col = 23, 40
	for b.Loop() {
		d.do(s)
	}
}

func BenchmarkMay(b *testing.B) {
	s := full()
	for b.Loop() {
		May(s)
	}
}

func BenchmarkPrint(b *testing.B)  { benchmark(b, printOf('x')) }
func BenchmarkMove(b *testing.B)   { benchmark(b, moveOf(1, 1)) }
func BenchmarkFeed(b *testing.B)   { benchmark(b, controlOf(10)) }
func BenchmarkErase(b *testing.B)  { benchmark(b, eraseOf(true, 2)) }
func BenchmarkResize(b *testing.B) { benchmark(b, resizeOf(132, 50)) }
