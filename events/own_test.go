package events

import (
	"slices"
	"strings"
	"testing"

	"wayfarer/api"
)

// ownLogs is events of each kind, none, one, many, and such as are no log.
func ownLogs() [][]api.Event {
	many := listed(typed("ab"), sized(80, 24), arrow('B'), pasted("abc"), pasted(""), typed(strings.Repeat("e", 4096)))
	return [][]api.Event{nil, many[:1], many[:3], many, slices.Repeat(many, 20), {arrow('E')}, {typed("a"), api.Event{Kind: 7, Bytes: []byte("a")}}}
}

// P21.1: what May and Begins are handed stays as it is, the room behind its end too.
func TestOwnAsked(t *testing.T) {
	for _, from := range ownLogs() {
		for _, to := range ownLogs() {
			a, b := apart(from), apart(to)
			May(a)
			Begins(a, b)
			Begins(a, a)
			Begins(a[:0], a)
			if !sameToEnd(a, apart(from)) || !sameToEnd(b, apart(to)) {
				t.Fatal("what was handed in did not stay as it was")
			}
		}
	}
}

// P21.1: likewise of Diff, and no two answers share memory, nor do an answer and what was handed in.
func TestOwnDiff(t *testing.T) {
	for _, from := range ownLogs() {
		for _, to := range append(ownLogs(), slices.Concat(from, listed(typed("abc"), pasted("d")))) {
			a, b := apart(from), apart(to)
			first, e := Diff(a, b)
			other, otherE := Diff(a, b)
			want, wantE := slowDiff(from, to)
			if string(first) != want || string(other) != want || e != wantE || otherE != wantE {
				t.Fatalf("Diff answers %d bytes, %d, and then %d, %d, want %d, %d", len(first), e, len(other), otherE, len(want), wantE)
			}
			spoil(first)
			if string(other) != want {
				t.Error("two answers share memory")
			}
			if !sameToEnd(a, apart(from)) || !sameToEnd(b, apart(to)) {
				t.Error("what was handed in did not stay as it was, or is answered")
			}
			spoilLog(a)
			spoilLog(b)
			if string(other) != want {
				t.Error("an answer shares memory with what was handed in")
			}
		}
	}
}

// checkApartWithin holds the events of an answer to sharing no memory with each other. Its events are spoilt behind it.
func checkApartWithin(t *testing.T, l, want []api.Event) {
	t.Helper()
	if !sameLog(l, want) {
		t.Fatalf("%d events are not the %d that were told", len(l), len(want))
	}
	for i := range l {
		spoil(l[i].Bytes)
		if !sameLog(l[i+1:], want[i+1:]) {
			t.Fatalf("the event %d shares memory with one behind it", i)
		}
		spoil(l[i].Bytes)
		if !sameLog(l, want) {
			t.Fatalf("the event %d shares memory with one ahead of it", i)
		}
	}
	spoilLog(l)
}

// checkRoom holds the room behind an answer's ends to having nothing of what was handed in.
func checkRoom(t *testing.T, l []api.Event) {
	t.Helper()
	for _, x := range l[len(l):cap(l)] {
		if !sameEvent(x, api.Event{}) {
			t.Errorf("behind an answer stands an event of the kind %d", x.Kind)
		}
	}
	for _, x := range l {
		for _, c := range x.Bytes[len(x.Bytes):cap(x.Bytes)] {
			if c != 0 {
				t.Errorf("behind an event's bytes stands %d", c)
			}
		}
	}
}

// P21.1: likewise of Apply, whose events share none with each other either.
func TestOwnApply(t *testing.T) {
	for _, from := range ownLogs() {
		for _, more := range append(ownLogs(), arrows(4096), slices.Repeat(listed(typed("a")), 300)) {
			form := slowForm(more)
			a, diff := apart(from), roomy([]byte(form), 'e')
			first, e := Apply(a, diff)
			other, otherE := Apply(a, diff)
			third, _ := Apply(a, diff)
			want := slices.Concat(from, more)
			if e != api.OK {
				want = nil
			}
			if e != otherE || (e == api.OK) != (slowLog(from) && slowLog(more) && len(from)+len(more) <= 4096 && len(form) <= 65536) {
				t.Fatalf("Apply answers %d and then %d", e, otherE)
			}
			checkRoom(t, first)
			checkApartWithin(t, first, want)
			if !sameLog(other, want) {
				t.Error("two answers share memory")
			}
			if !sameToEnd(a, apart(from)) || string(diff[:cap(diff)]) != form+"eeeee" {
				t.Error("what was handed in did not stay as it was, or is answered")
			}
			spoilLog(a)
			spoil(diff)
			if !sameLog(other, want) || !sameLog(third, want) {
				t.Error("an answer shares memory with what was handed in")
			}
		}
	}
}

// P21.1: likewise of Since, at each number.
func TestOwnSince(t *testing.T) {
	for _, from := range ownLogs() {
		for at := range len(from) + 2 {
			l := apart(from)
			first, e := Since(l, at)
			other, otherE := Since(l, at)
			var want []api.Event
			if e == api.OK {
				want = from[at:]
			}
			if e != otherE || (e == api.OK) != (slowLog(from) && at <= len(from)) {
				t.Fatalf("Since answers %d and then %d", e, otherE)
			}
			checkRoom(t, first)
			checkApartWithin(t, first, want)
			if !sameLog(other, want) {
				t.Error("two answers share memory")
			}
			if !sameToEnd(l, apart(from)) {
				t.Error("what was handed in did not stay as it was, or is answered")
			}
			spoilLog(l)
			if !sameLog(other, want) {
				t.Error("an answer shares memory with what was handed in")
			}
		}
	}
}

// P21.1: what goes on behind an answer, or behind what was handed in, is seen in no other list.
func TestOwnBehind(t *testing.T) {
	whole := apart(listed(typed("ab"), arrow('B'), pasted("cd")))
	a, e := Apply(whole[:1], []byte("\x01\x04D"))
	b, since := Since(whole[:2], 1)
	if e != api.OK || since != api.OK {
		t.Fatalf("Apply and Since answer %d, %d", e, since)
	}
	_ = append(a, arrow('A'))
	_ = append(b, arrow('A'))
	_ = append(a[0].Bytes, 'x')
	if !sameToEnd(whole, apart(listed(typed("ab"), arrow('B'), pasted("cd")))) {
		t.Error("what was handed in did not stay as it was")
	}
	diff, e := Diff(whole[:1], whole[:2])
	if e != api.OK || string(diff) != "\x01\x04B" {
		t.Errorf("Diff of beginnings of one list = %x, %d", diff, e)
	}
	_ = append(diff, 1, 2, 3, 4, 5, 6, 7, 8)
	if !sameToEnd(whole, apart(listed(typed("ab"), arrow('B'), pasted("cd")))) {
		t.Error("what was handed in did not stay as it was")
	}
}

// P21.1: all that is handed in may be one and the same memory; what is answered is none of it.
func TestOwnSame(t *testing.T) {
	b := []byte("\x01\x01\x01\x01")
	x, y := api.Event{Kind: api.EBytes, Bytes: b}, api.Event{Kind: api.EPaste, Bytes: b[1:3]}
	l := listed(x, y, x, y)
	want := listed(typed("\x01\x01\x01\x01"), pasted("\x01\x01"), typed("\x01\x01\x01\x01"), pasted("\x01\x01"), typed("\x01"))
	c, e := Apply(l, b)
	if e != api.OK {
		t.Fatalf("Apply answers %d", e)
	}
	since, e := Since(l, 1)
	if e != api.OK {
		t.Fatalf("Since answers %d", e)
	}
	checkApartWithin(t, c, want)
	checkApartWithin(t, since, want[1:4])
	if string(b) != "\x01\x01\x01\x01" || !sameLog(l, want[:4]) {
		t.Error("what was handed in did not stay as it was")
	}
	if diff, e := Diff(l[:2], l); e != api.OK || string(diff) != "\x02\x01\x04\x01\x01\x01\x01\x03\x02\x01\x01" {
		t.Errorf("Diff = %x, %d", diff, e)
	}
}

// P21.1: an answer hangs on nothing that was told ahead of it.
func TestOwnOrder(t *testing.T) {
	n := noise(2106)
	for range 2000 {
		a, more := someLog(&n, 5), someLog(&n, 5)
		b := slices.Concat(a, more)
		for range n.below(3) {
			other, _ := Apply(someLog(&n, 5), []byte(slowForm(someLog(&n, 5))))
			spoilLog(other)
			diff, _ := Diff(nil, someLog(&n, 5))
			spoil(diff)
		}
		checkDiff(t, a, b, slowForm(more), api.OK)
		checkSince(t, b, len(a), more, api.OK)
	}
}

func BenchmarkDiff(b *testing.B) {
	l := slices.Repeat(listed(typed("a"), arrow('A'), pasted("some pasted text\n"), sized(80, 24)), 1024)
	for b.Loop() {
		Diff(l[:4000], l)
	}
}

func BenchmarkApply(b *testing.B) {
	l := slices.Repeat(listed(typed("a"), arrow('A'), pasted("some pasted text\n"), sized(80, 24)), 1024)
	diff := []byte(slowForm(l[4000:]))
	for b.Loop() {
		Apply(l[:4000], diff)
	}
}
