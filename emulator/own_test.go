package emulator

import (
	"slices"
	"testing"

	"wayfarer/api"
	"wayfarer/screen"
	"wayfarer/vt"
)

// roomyList is a list with room behind its end, which has elements of its own.
func roomyList[T any](l []T, behind T) []T {
	r := append(make([]T, 0, len(l)+5), l...)
	for range 5 {
		r = append(r, behind)
	}
	return r[:len(l)]
}

// roomy is s with such lists.
func roomy(s api.Screen) api.Screen {
	s.Grid.Cells, s.Main.Cells = roomyList(s.Grid.Cells, cellOf('e')), roomyList(s.Main.Cells, cellOf('f'))
	s.Tabs, s.Title = roomyList(s.Tabs, 7), roomyList(s.Title, 'e')
	return s
}

// roomyAction is a with such lists.
func roomyAction(a api.Action) api.Action {
	a.Mid, a.Params, a.Text = roomyList(a.Mid, '('), roomyList(a.Params, 3), roomyList(a.Text, 'f')
	return a
}

// toEnd is s with its lists up to the end of their room.
func toEnd(s api.Screen) api.Screen {
	s.Grid.Cells, s.Main.Cells = s.Grid.Cells[:cap(s.Grid.Cells)], s.Main.Cells[:cap(s.Main.Cells)]
	s.Tabs, s.Title = s.Tabs[:cap(s.Tabs)], s.Title[:cap(s.Title)]
	return s
}

// actionToEnd is a with its lists up to the end of their room.
func actionToEnd(a api.Action) api.Action {
	a.Mid, a.Params, a.Text = a.Mid[:cap(a.Mid)], a.Params[:cap(a.Params)], a.Text[:cap(a.Text)]
	return a
}

// spoilList makes all of a list something else, the room behind its end too.
func spoilList[T any](l []T, by T) {
	l = l[:cap(l)]
	for i := range l {
		l[i] = by
	}
}

// spoilers is what does so to each list of a screen.
func spoilers() []func(s api.Screen) {
	return []func(s api.Screen){
		func(s api.Screen) { spoilList(s.Grid.Cells, api.Cell{Char: 'z', Wide: 7}) },
		func(s api.Screen) { spoilList(s.Main.Cells, api.Cell{Char: 'z', Wide: 8}) },
		func(s api.Screen) { spoilList(s.Tabs, -77) },
		func(s api.Screen) { spoilList(s.Title, -88) },
	}
}

func spoil(s api.Screen) {
	for _, f := range spoilers() {
		f(s)
	}
}

// without is s without one of its lists, by its number among the spoilers.
func without(s api.Screen, list int) api.Screen {
	switch list {
	case 0:
		s.Grid.Cells = nil
	case 1:
		s.Main.Cells = nil
	case 2:
		s.Tabs = nil
	case 3:
		s.Title = nil
	}
	return s
}

// owned is screens that have something in each list, with the other grid shown and without.
func owned() []api.Screen {
	s := screenOf("aW-d/X=1e/ghia 1,3+ 0-1 t0,1,3")
	alt := apart(s)
	alt.Alt, alt.Main = true, gridOf("abcd/eW-f/1..c")
	return []api.Screen{s, become(s, "= 1,1 insert"), alt, become(alt, "= 0,2 t0,2 origin")}
}

// someActions is actions of each kind.
func someActions() []api.Action {
	l := []api.Action{{}, {Kind: 77, Mid: []byte("("), Params: []int{1}, Text: []rune("0;a")}, printed('a'), printed(wide), printed(mark), printed(-1), oscOf("0;title"), oscOf("2;"), oscOf("2;\u00e9"), oscOf("1;title"), oscOf(""), osc('0', ';', -1, 'a')}
	for c := rune(7); c <= 14; c++ {
		l = append(l, executed(c))
	}
	for _, final := range []byte("78DEHMcx") {
		l = append(l, esc(final), api.Action{Kind: api.AEsc, Final: final, Mid: []byte("(")})
	}
	for _, final := range []byte("ABeCaDEFG`dHfJKLM@PXSTgmhlrsuncx") {
		for _, params := range [][]int{nil, {1}, {2, 3}, {4, 31}, {6, 5}, {5}, {3}} {
			l = append(l, csi(final, params...))
		}
		l = append(l, api.Action{Kind: api.ACsi, Final: final, Mid: []byte(" "), Params: []int{6}})
	}
	for _, final := range []byte("hlmn") {
		l = append(l, question(final, 6, 7), question(final, 1049), question(final, 47, 25), question(final))
	}
	return l
}

// P17.1: what is handed in stays as it is, the room behind its end too; what is answered shares no memory with it, with another answer, or with another list of one answer.
func TestOwn(t *testing.T) {
	for _, from := range owned() {
		for _, act := range someActions() {
			s, a := roomy(from), roomyAction(act)
			first, reply, e := Do(s, a)
			second, reply2, e2 := Do(s, a)
			if e != api.OK || e2 != api.OK || !equal(first, second) || !slices.Equal(reply, reply2) {
				t.Fatalf("Do(%+v) answers %s, %q, %d, and then %s, %q, %d", act, tellingOf(first), reply, e, tellingOf(second), reply2, e2)
			}
			kept, keptReply := apart(second), slices.Clone(reply2)
			spoil(first)
			spoilList(reply, 'z')
			if !equal(second, kept) || !slices.Equal(reply2, keptReply) {
				t.Errorf("Do(%+v): two answers share memory", act)
			}
			for list, f := range spoilers() {
				f(second)
				if !equal(without(second, list), without(kept, list)) {
					t.Errorf("Do(%+v): two lists of an answer share memory", act)
				}
				second = apart(kept)
			}
			third, _, _ := Do(s, a)
			spoil(third)
			if !equal(toEnd(s), toEnd(roomy(from))) || !vt.Same(actionToEnd(a), actionToEnd(roomyAction(act))) {
				t.Errorf("Do(%+v): what was handed in did not stay as it was", act)
			}
			// What is handed in and changed behind the call changes no answer.
			fourth, _, _ := Do(s, a)
			spoil(s)
			spoilList(a.Mid, 'z')
			spoilList(a.Params, -99)
			spoilList(a.Text, 'z')
			if !equal(fourth, kept) {
				t.Errorf("Do(%+v): an answer shares memory with what was handed in", act)
			}
		}
	}
}

// P17.1: what lies behind the ends of the lists is of no weight.
func TestRoom(t *testing.T) {
	for _, from := range owned() {
		for _, act := range someActions() {
			got, reply, e := Do(roomy(from), roomyAction(act))
			want, wantReply, wantE := Do(apart(from), act)
			if e != wantE || !slices.Equal(reply, wantReply) || !equal(got, want) {
				t.Errorf("Do(%+v) with room: %s, %q, %d", act, tellingOf(got), reply, e)
			}
		}
	}
}

// P17.2: a terminal shares no memory with what it was handed, with what it answers, or with a copy; what it was handed stays.
func TestOwnTerminal(t *testing.T) {
	const text = "ab\xe4\xb8\xadc&]2;title\a&[?1049hd&H&[5;2H&[6n&[c&[1;31mx"
	m, slow := terminal(t, 9, 3), slowNew(9, 3)
	for range 4 {
		b := roomyList(bytesOf(text), '&')
		whole := slices.Clone(b[:cap(b)])
		reply := m.Write(b)
		want := slow.write(bytesOf(text))
		if !slices.Equal(b[:cap(b)], whole) {
			t.Fatal("what was written did not stay as it was")
		}
		spoilList(b, 'z')
		checkReply(t, text, reply, want)
		spoilList(reply, 'z')
		checkSame(t, "behind Write", m, slow)
		first, second := m.Screen(), m.Screen()
		spoil(first)
		if !equal(second, slow.screen) {
			t.Fatal("two screens share memory")
		}
		for list, f := range spoilers() {
			f(second)
			if !equal(without(second, list), without(slow.screen, list)) {
				t.Fatal("two lists of a screen share memory")
			}
			second = m.Screen()
		}
		spoil(second)
		checkSame(t, "behind Screen", m, slow)
		n := m.Copy()
		spoil(n.Screen())
		n.Write(bytesOf("&[H&[Jzzzz&]2;zzz\a&[3g&[?1049lzzz"))
		spoil(n.Screen())
		checkSame(t, "behind Copy", m, slow)
		// Each way between two of them is tried: the copy stays, too.
		n = m.Copy()
		m.Write(bytesOf("&[H&[Jzzzz&]2;zzz\a&[3g&[?1049lzzz"))
		spoil(m.Screen())
		checkSame(t, "of the copy", n, slow)
		m = n
	}
	m.Resize(4, 4)
	slow.resize(4, 4)
	spoil(m.Screen())
	checkSame(t, "behind Resize", m, slow)
}

// P17.2: replies of one terminal share no memory with each other.
func TestOwnReplies(t *testing.T) {
	m := terminal(t, 3, 2)
	var got, want [][]byte
	for i := range 50 {
		reply := m.Write(bytesOf([]string{"&[6na", "&[5n&[5n", "&[c", "x", "&[6n&[c"}[i%5]))
		got, want = append(got, reply), append(want, slices.Clone(reply))
	}
	for i := range got {
		if !slices.Equal(got[i], want[i]) {
			t.Fatalf("reply %d was changed by a later call", i)
		}
		spoilList(got[i], 'z')
		for k := i + 1; k < len(got); k++ {
			if !slices.Equal(got[k], want[k]) {
				t.Fatalf("the replies %d and %d share memory", i, k)
			}
		}
	}
}

// P17.2: two new terminals share nothing.
func TestOwnNew(t *testing.T) {
	m, n := terminal(t, 20, 2), terminal(t, 20, 2)
	m.Write(bytesOf("abc&[3g&]0;t\a&["))
	spoil(m.Screen())
	if !screen.Same(n.Screen(), fresh(20, 2)) || !n.Quiet() {
		t.Errorf("%s", tellingOf(n.Screen()))
	}
}

func BenchmarkWrite(b *testing.B) {
	m := terminal(b, 80, 24)
	text := bytesOf("The quick brown fox jumps over the lazy dog.\r\n&[1;31mred&[m&[5;7H")
	b.SetBytes(int64(len(text)))
	for b.Loop() {
		m.Write(text)
	}
}

func BenchmarkScreen(b *testing.B) {
	m := terminal(b, 80, 24)
	for b.Loop() {
		m.Screen()
	}
}

func BenchmarkCopy(b *testing.B) {
	m := terminal(b, 80, 24)
	for b.Loop() {
		m.Copy()
	}
}
