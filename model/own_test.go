package model

import (
	"slices"
	"testing"

	"wayfarer/api"
)

// roomyList is a list with room behind its end, which has elements of its own.
func roomyList[T any](l []T, behind T) []T {
	r := append(make([]T, 0, len(l)+5), l...)
	for range 5 {
		r = append(r, behind)
	}
	return r[:len(l)]
}

// roomy is s with such lists.
func roomy(s api.Screen) api.Screen {
	s.Grid.Cells, s.Main.Cells = roomyList(s.Grid.Cells, cellOf('e')), roomyList(s.Main.Cells, cellOf('f'))
	s.Tabs, s.Title = roomyList(s.Tabs, 7), roomyList(s.Title, 'e')
	return s
}

// roomyView is v with such lists.
func roomyView(v api.View) api.View {
	v.Grid.Cells, v.Title = roomyList(v.Grid.Cells, cellOf('e')), roomyList(v.Title, 'e')
	return v
}

// toEnd is s with its lists up to the end of their room.
func toEnd(s api.Screen) api.Screen {
	s.Grid.Cells, s.Main.Cells = s.Grid.Cells[:cap(s.Grid.Cells)], s.Main.Cells[:cap(s.Main.Cells)]
	s.Tabs, s.Title = s.Tabs[:cap(s.Tabs)], s.Title[:cap(s.Title)]
	return s
}

// viewToEnd is v likewise.
func viewToEnd(v api.View) api.View {
	v.Grid.Cells, v.Title = v.Grid.Cells[:cap(v.Grid.Cells)], v.Title[:cap(v.Title)]
	return v
}

// spoilList makes all of a list something else, the room behind its end too.
func spoilList[T any](l []T, by T) {
	l = l[:cap(l)]
	for i := range l {
		l[i] = by
	}
}

func spoil(s api.Screen) {
	spoilList(s.Grid.Cells, api.Cell{Char: 'z', Wide: 7})
	spoilList(s.Main.Cells, api.Cell{Char: 'z', Wide: 8})
	spoilList(s.Tabs, -77)
	spoilList(s.Title, -88)
}

func spoilView(v api.View) {
	spoilList(v.Grid.Cells, api.Cell{Char: 'z', Wide: 7})
	spoilList(v.Title, -88)
}

// owned is screens that have something in each list, with the other grid shown and without, tame ones and wild ones, and one that may not be.
func owned() []api.Screen {
	s := screenOf("aW-d/X=1./,.~_ 1,3 0-2")
	alt := withMain(s, "abcd/xX=y/1..c")
	broken := apart(s)
	broken.Grid.Cells[1] = cellOf('a')
	return []api.Screen{s, become(s, "= 1,3+ insert 0-1"), alt, become(alt, "= 0,2 origin novisible"), broken}
}

// P18.1: what Of is handed stays as it is, the room behind its end too, and it shares no memory with what is answered, nor do two answers, nor two lists of one.
func TestOwnOf(t *testing.T) {
	text := bytesOf("ab\xe4\xb8\xadc&]2;title\x07&[?1049hd&H&[1;31mx&H&[")
	b := roomyList(text, '&')
	whole := slices.Clone(b[:cap(b)])
	first, e := Of(9, 3, b)
	other, e2 := Of(9, 3, b)
	kept := apart(other)
	if e != api.OK || e2 != api.OK || !equal(first, other) || !first.Alt || len(first.Tabs) == 0 || len(first.Title) == 0 {
		t.Fatalf("%s, %d", tellingOf(first), e)
	}
	spoil(first)
	if !slices.Equal(b[:cap(b)], whole) || !equal(other, kept) {
		t.Error("two answers share memory, or what was handed in does with one")
	}
	spoilList(b, 'z')
	if !equal(other, kept) {
		t.Error("an answer shares memory with what was handed in")
	}
	for i, f := range []func(s *api.Screen){
		func(s *api.Screen) { spoilList(s.Grid.Cells, api.Cell{}); s.Grid.Cells = kept.Grid.Cells },
		func(s *api.Screen) { spoilList(s.Main.Cells, api.Cell{}); s.Main.Cells = kept.Main.Cells },
		func(s *api.Screen) { spoilList(s.Tabs, -1); s.Tabs = kept.Tabs },
		func(s *api.Screen) { spoilList(s.Title, -1); s.Title = kept.Title },
	} {
		s, _ := Of(9, 3, text)
		f(&s)
		if !equal(s, kept) {
			t.Errorf("list %d of an answer shares memory with another one", i)
		}
	}
}

// P18.1: likewise of See.
func TestOwnSee(t *testing.T) {
	for _, from := range owned() {
		s := roomy(from)
		first, e := See(s)
		other, e2 := See(s)
		kept := apartView(other)
		if e != e2 || !equalViews(first, other) {
			t.Fatalf("See answers %s, %d, and then %s, %d", tellingOfView(first), e, tellingOfView(other), e2)
		}
		spoilView(first)
		if !equalViews(other, kept) {
			t.Error("two answers share memory")
		}
		if !equal(toEnd(s), toEnd(roomy(from))) {
			t.Error("what was handed in did not stay as it was")
		}
		spoilList(other.Title, 'z')
		if !slices.Equal(other.Grid.Cells, kept.Grid.Cells) {
			t.Error("two lists of an answer share memory")
		}
		last, _ := See(s)
		spoil(s)
		if !equalViews(last, kept) {
			t.Error("an answer shares memory with what was handed in")
		}
	}
}

// P18.1, P18.2: what is handed to Tame and Text stays as it is, and what a text told stays when that is changed.
func TestOwnText(t *testing.T) {
	for _, from := range owned() {
		s := roomy(from)
		tame := Tame(s)
		text, e := Text(s)
		if tame != Tame(apart(from)) {
			t.Error("what lies behind the ends is of weight")
		}
		if bare, bareE := Text(apart(from)); bare != text || bareE != e {
			t.Errorf("%q, %d with room is %q, %d", bare, bareE, text, e)
		}
		if !equal(toEnd(s), toEnd(roomy(from))) {
			t.Error("what was handed in did not stay as it was")
		}
		again := string([]byte(text))
		spoil(s)
		if text != again {
			t.Error("a text shares memory with what was handed in")
		}
	}
}

// P18.1, P18.2: what is handed to Same and Differ stays as it is, and two answers share no memory.
func TestOwnDiffer(t *testing.T) {
	for _, pair := range [][2]string{{"abc/def", "xbc/dyz"}, {"aW-", "aX="}, {"abc", "abc"}, {"abc", "ab"}} {
		v, w := roomyView(viewOf(pair[0])), roomyView(viewOf(pair[1]))
		same := Same(v, w)
		first, e := Differ(v, w)
		other, e2 := Differ(v, w)
		kept := slices.Clone(other)
		bare, bareE := Differ(viewOf(pair[0]), viewOf(pair[1]))
		if e != e2 || !slices.Equal(first, other) || bareE != e || !slices.Equal(bare, first) || same != Same(viewOf(pair[0]), viewOf(pair[1])) {
			t.Errorf("%s, %s: %d, %d and %d, %d and %d, %d", pair[0], pair[1], first, e, other, e2, bare, bareE)
		}
		spoilList(first, -99)
		spoilView(see(t, screenOf(pair[0])))
		if !slices.Equal(other, kept) {
			t.Error("two answers share memory")
		}
		if !equalViews(viewToEnd(v), viewToEnd(roomyView(viewOf(pair[0])))) || !equalViews(viewToEnd(w), viewToEnd(roomyView(viewOf(pair[1])))) {
			t.Error("what was handed in did not stay as it was")
		}
		spoilView(v)
		spoilView(w)
		if !slices.Equal(other, kept) {
			t.Error("an answer shares memory with what was handed in")
		}
	}
}

func full() api.Screen {
	s := fresh(80, 24)
	for i := range s.Grid.Cells {
		s.Grid.Cells[i] = cellOf("abcdeABC.1"[i%10])
	}
	return s
}

func BenchmarkOf(b *testing.B) {
	text := bytesOf("The quick brown fox jumps over the lazy dog.\r\n&[1;31mred&[m&[5;7H")
	for b.Loop() {
		Of(80, 24, text)
	}
}

func BenchmarkSee(b *testing.B) {
	s := full()
	for b.Loop() {
		See(s)
	}
}

func BenchmarkDiffer(b *testing.B) {
	v, w := see(b, full()), see(b, fresh(80, 24))
	for b.Loop() {
		Differ(v, w)
	}
}

func BenchmarkText(b *testing.B) {
	s := full()
	for b.Loop() {
		Text(s)
	}
}
