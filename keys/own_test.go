package keys

import (
	"bytes"
	"reflect"
	"slices"
	"strings"
	"testing"

	"wayfarer/api"
)

// ownTexts is texts of which all, some and no bytes are told.
func ownTexts() []string {
	return append(tough(), "", "a", "abc", strings.Repeat("a\n\x1b\x9b", 1024))
}

// P20.1: what Clean is handed stays as it is, the room behind its end too, and shares no memory with what is answered, nor do two answers.
func TestOwnClean(t *testing.T) {
	for _, text := range ownTexts() {
		b := roomy([]byte(text), '\n')
		whole := slices.Clone(b[:cap(b)])
		first, other := Clean(b), Clean(b)
		kept := string(other)
		spoil(first)
		if string(other) != kept || kept != slowClean(text) {
			t.Errorf("two answers for %q share memory", short(text))
		}
		if !bytes.Equal(b[:cap(b)], whole) {
			t.Errorf("%q did not stay as it was, or is answered", short(text))
		}
		spoil(b)
		if string(other) != kept {
			t.Errorf("the answer for %q shares memory with it", short(text))
		}
	}
}

// P20.1: behind an answer's end no byte stands that was left out, and none of another answer.
func TestOwnRoom(t *testing.T) {
	for _, text := range ownTexts() {
		for _, b := range [][]byte{Clean([]byte(text)), must(t, pasted(text), false), must(t, pasted(text), true)} {
			for _, c := range b[len(b):cap(b)] {
				if c != 0 {
					t.Errorf("behind the answer for %q stands %d", short(text), c)
				}
			}
		}
	}
}

// must is an event's bytes.
func must(t *testing.T, x api.Event, paste bool) []byte {
	t.Helper()
	b, e := Encode(x, false, paste)
	if e != api.OK {
		t.Fatal(e)
	}
	return b
}

// P20.1: likewise of Encode, for events of each kind and such as may not be.
func TestOwnEncode(t *testing.T) {
	l := append(broken(), sized(80, 24), arrow('A'), arrow('D'))
	for _, text := range ownTexts() {
		l = append(l, typed("a"+text[:min(len(text), 4095)]), pasted(text))
	}
	for _, from := range l {
		for _, mode := range modes() {
			handed := events(listed(from))
			x := handed[0]
			first, e := Encode(x, mode[0], mode[1])
			other, otherE := Encode(x, mode[0], mode[1])
			kept := string(other)
			if want, wantE := slowEncode(from, mode[0], mode[1]); kept != want || string(first) != want || e != wantE || otherE != wantE {
				t.Fatalf("Encode answers %q, %d, and then %q, %d, want %q", short(string(first)), e, short(kept), otherE, short(want))
			}
			spoil(first)
			if string(other) != kept {
				t.Errorf("two answers share memory: %q", short(kept))
			}
			if !sameEvents(handed, events(listed(from))) {
				t.Errorf("what was handed in did not stay as it was, or is answered: %q", short(string(from.Bytes)))
			}
			spoil(x.Bytes)
			if string(other) != kept {
				t.Errorf("an answer shares memory with what was handed in: %q", short(kept))
			}
		}
	}
}

// P20.1: likewise of All, for lists of events with none, one, many, and with one that may not be, on screens that may be and one that may not.
func TestOwnAll(t *testing.T) {
	wrong := laden(t)
	wrong.Row = -1
	text := "a\x1b\n\x9b"
	many := listed(typed(text), pasted(text), arrow('B'), sized(3, 4), pasted(""), typed(strings.Repeat(text, 1024)))
	for _, from := range []api.Screen{fresh(t, 9, 3), laden(t), wrong} {
		for _, l := range [][]api.Event{nil, many, many[:1], many[1:2], many[2:3], many[3:4], append(slices.Clone(many), arrow('E'))} {
			for _, mode := range modes() {
				s, handed := apart(inModes(from, mode)), events(l)
				first, e := All(s, handed...)
				other, otherE := All(s, handed...)
				kept := string(other)
				if string(first) != kept || e != otherE {
					t.Fatalf("All answers %q, %d, and then %q, %d", short(string(first)), e, short(kept), otherE)
				}
				spoil(first)
				if string(other) != kept {
					t.Errorf("two answers share memory: %q", short(kept))
				}
				if !sameEvents(handed, events(l)) {
					t.Error("the events did not stay as they were, or are answered")
				}
				if !reflect.DeepEqual(toEnd(s), toEnd(apart(inModes(from, mode)))) {
					t.Error("the screen did not stay as it was")
				}
				for _, x := range handed {
					spoil(x.Bytes)
				}
				if string(other) != kept {
					t.Errorf("an answer shares memory with what was handed in: %q", short(kept))
				}
			}
		}
	}
}

// P20.1: all that is handed in may be one and the same memory.
func TestOwnSame(t *testing.T) {
	b := []byte("a\x1bb\n")
	x, y := api.Event{Kind: api.EPaste, Bytes: b[1:]}, api.Event{Kind: api.EBytes, Bytes: b}
	s := inModes(fresh(t, 3, 1), [2]bool{false, true})
	checkAll(t, s, listed(y, x, y, x), "a\x1bb\n"+ahead+"b\r"+behind+"a\x1bb\n"+ahead+"b\r"+behind, api.OK)
	if string(b) != "a\x1bb\n" {
		t.Errorf("what was handed in is %q", b)
	}
}

// P20.1: an answer hangs on nothing that was told ahead of it.
func TestOwnOrder(t *testing.T) {
	n := noise(7)
	for range 2000 {
		x, mode := someEvent(&n), pick(&n, modes())
		want, e := slowEncode(x, mode[0], mode[1])
		for range n.below(3) {
			other, _ := Encode(someEvent(&n), mode[1], mode[0])
			spoil(other)
		}
		checkEncode(t, x, mode, want, e)
	}
}

func BenchmarkClean(b *testing.B) {
	text := bytes.Repeat([]byte("The quick brown fox\n\x1b[1m"), 160)
	for b.Loop() {
		Clean(text)
	}
}

func BenchmarkAll(b *testing.B) {
	s := fresh(b, 80, 24)
	s.Arrows, s.Paste = true, true
	l := slices.Repeat(listed(typed("a"), arrow('A'), pasted("some pasted text\n")), 100)
	for b.Loop() {
		All(s, l...)
	}
}
