package host

import (
	"bytes"
	"testing"

	"wayfarer/api"
)

// roomyState is h with room behind the ends of its lists.
func roomyState(h api.Host) api.Host {
	h.Screen = roomy(apart(h.Screen))
	return h
}

// sameToEnd is whether states are the same, the room behind the ends of their lists too.
func sameToEnd(a, b api.Host) bool {
	return a.Echo == b.Echo && equal(a.Screen, b.Screen) && equal(toEnd(a.Screen), toEnd(b.Screen))
}

// owned is states that have something in each list, and such as may not be.
func owned() []api.Host {
	s := stateOf("aW-d/X=1./,.~_ 1,3 arrows", 300)
	s.Screen.Title = []rune("tea")
	wider := sized(s, 20, 2)
	return []api.Host{s, wider, sized(wider, 4, 3), {Screen: fresh(4, 3)}, stateOf("a", 1), {Screen: wild(s.Screen), Echo: 4}, changedBy(s, func(s *api.Screen) { s.Row = 9 }), changedBy(s, func(s *api.Screen) { s.Title[1] = 7 })}
}

// ownedDiffs is differences of each kind.
func ownedDiffs() [][]byte {
	return [][]byte{diffOf(300, 4, 3, ""), diffOf(1, 4, 3, "x&]2;tea\x07&[1mx"), diffOf(2, 20, 2, ""), diffOf(2, 20, 2, "\ttea&["), diffOf(1, 1, 1, "\xe4\xb8"), diffOf(1, 0, 1, "a"), {0x80}, nil, make([]byte, 65537)}
}

// checkOwned holds two answers, alike, to sharing no memory with each other, with what was handed in, and no two of their lists with each other.
func checkOwned(t *testing.T, name string, first, other api.Host, spoilGiven func()) {
	t.Helper()
	kept := stateApart(other)
	if !sameState(first, other) {
		t.Fatalf("%s answers %s and then %s", name, tellingState(first), tellingState(other))
	}
	for i, spoilOne := range []func(s api.Screen){
		func(s api.Screen) {
			spoilList(s.Grid.Cells, api.Cell{Char: 'z', Wide: 7})
			copy(s.Grid.Cells, kept.Screen.Grid.Cells)
		},
		func(s api.Screen) { spoilList(s.Main.Cells, api.Cell{Char: 'z', Wide: 8}) },
		func(s api.Screen) { spoilList(s.Tabs, -77); copy(s.Tabs, kept.Screen.Tabs) },
		func(s api.Screen) { spoilList(s.Title, -88); copy(s.Title, kept.Screen.Title) },
	} {
		spoilOne(first.Screen)
		if !sameState(first, kept) {
			t.Errorf("%s: the list %d of an answer shares memory with another one", name, i)
		}
	}
	spoil(first.Screen)
	if !sameState(other, kept) {
		t.Errorf("%s: two answers share memory", name)
	}
	spoilGiven()
	if !sameState(other, kept) {
		t.Errorf("%s: an answer shares memory with what was handed in", name)
	}
}

// P22.1: what Of is handed stays as it is, the room behind its lists' ends too, and none of it is answered; likewise what May and Same are handed.
func TestOwnOf(t *testing.T) {
	for _, c := range owned() {
		h := roomyState(c)
		first, e := Of(h.Screen, h.Echo)
		other, e2 := Of(h.Screen, h.Echo)
		if e != e2 {
			t.Fatalf("Of answers %d and then %d", e, e2)
		}
		May(h)
		Same(h, h)
		Same(h, first)
		if !sameToEnd(h, roomyState(c)) {
			t.Error("what was handed in did not stay as it was")
		}
		checkOwned(t, "Of", first, other, func() { spoil(h.Screen) })
	}
}

// P22.2: likewise of Diff.
func TestOwnDiff(t *testing.T) {
	for _, from := range owned() {
		for _, to := range owned() {
			a, b := roomyState(from), roomyState(to)
			first, e := Diff(a, b)
			other, e2 := Diff(a, b)
			kept := bytes.Clone(other)
			bare, e3 := Diff(stateApart(from), stateApart(to))
			if e != e2 || e != e3 || !bytes.Equal(first, other) || !bytes.Equal(first, bare) {
				t.Fatalf("Diff answers %q, %d, and then %q, %d", textOf(first), e, textOf(other), e2)
			}
			spoilList(first, 'z')
			if !bytes.Equal(other, kept) {
				t.Error("two answers share memory")
			}
			if !sameToEnd(a, roomyState(from)) || !sameToEnd(b, roomyState(to)) {
				t.Error("what was handed in did not stay as it was")
			}
			spoil(a.Screen)
			spoil(b.Screen)
			if !bytes.Equal(other, kept) {
				t.Error("an answer shares memory with what was handed in")
			}
		}
	}
}

// P22.2: likewise of Apply.
func TestOwnApply(t *testing.T) {
	for _, from := range owned() {
		for _, bare := range ownedDiffs() {
			a, diff := roomyState(from), roomyList(bare, 'e')
			whole := bytes.Clone(diff[:cap(diff)])
			first, e := Apply(a, diff)
			other, e2 := Apply(a, diff)
			want, wantE := slowApply(from, bare)
			if e != e2 || e != wantE || !sameState(other, want) {
				t.Fatalf("Apply answers %s, %d, and then %d", tellingState(other), e, e2)
			}
			if !sameToEnd(a, roomyState(from)) || !bytes.Equal(diff[:cap(diff)], whole) {
				t.Error("what was handed in did not stay as it was")
			}
			checkOwned(t, "Apply", first, other, func() {
				spoil(a.Screen)
				spoilList(diff, 'z')
			})
		}
	}
}

// P22.2: one state twice, and states that share their lists.
func TestOwnTwice(t *testing.T) {
	h := roomyState(owned()[0])
	next := h
	next.Screen.Row, next.Screen.Visible, next.Echo = 0, false, 9
	diff, e := Diff(h, next)
	same, e2 := Diff(h, h)
	if e != api.OK || e2 != api.OK || string(same) != string(diffOf(300, 4, 3, "")) || !sameToEnd(h, roomyState(owned()[0])) {
		t.Fatalf("Diff = %q, %d; %q, %d", textOf(diff), e, textOf(same), e2)
	}
	first, e := Apply(h, diff)
	other, e2 := Apply(h, diff)
	if e != api.OK || e2 != api.OK || !sameState(first, next) {
		t.Fatalf("Apply = %s, %d", tellingState(first), e)
	}
	checkOwned(t, "Apply", first, other, func() { spoil(h.Screen) })
}

// P22.2: an answer hangs on nothing that was told ahead of it.
func TestOwnOrder(t *testing.T) {
	n := noise(2206)
	for range 200 {
		a, b := pick(&n, owned()[:5]), pick(&n, owned()[:5])
		for range n.below(3) {
			other, _ := Apply(pick(&n, owned()), pick(&n, ownedDiffs()))
			spoil(other.Screen)
			diff, _ := Diff(pick(&n, owned()), pick(&n, owned()))
			spoilList(diff, 'z')
		}
		checkDiff(t, a, b)
	}
}

func full() api.Host {
	h := api.Host{Screen: fresh(80, 24)}
	for i := range h.Screen.Grid.Cells {
		h.Screen.Grid.Cells[i] = cellOf("abcdeABC.1"[i*7/3%10])
	}
	return h
}

func BenchmarkDiff(b *testing.B) {
	from, to := full(), full()
	to.Screen.Grid.Cells[1000] = cellOf('z')
	for b.Loop() {
		Diff(from, to)
	}
}

func BenchmarkApply(b *testing.B) {
	from, to := full(), full()
	to.Screen.Grid.Cells[1000] = cellOf('z')
	diff, _ := Diff(from, to)
	for b.Loop() {
		Apply(from, diff)
	}
}

func BenchmarkApplyEcho(b *testing.B) {
	from, to := full(), full()
	to.Echo = 1
	diff, _ := Diff(from, to)
	for b.Loop() {
		Apply(from, diff)
	}
}
