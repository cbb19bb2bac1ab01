package ssp

import (
	"slices"
	"strings"
	"testing"

	"wayfarer/api"
)

// checkPiece holds a latest state to its text, and spoils it behind that.
func checkPiece(t *testing.T, r *Receiver[piece], n uint64, want string) {
	t.Helper()
	got, x := r.Latest()
	if got != n || string(x) != want {
		t.Errorf("Latest = %d, %q, want %d, %q", got, x, n, want)
	}
	spoil(x)
}

// P23.1: what is done to the first state and to what was set, behind the call, changes nothing in a sender.
func TestOwnSender(t *testing.T) {
	first := piece("a")
	s := NewSender(first)
	spoil(first)
	x := piece(roomy([]byte("ab"), 'e'))
	checkErrno(t, "Set", s.Set(x), api.OK)
	spoil(x)
	checkSends(t, s, 0, 0, 100, instruction(0, 1, "b"))
	y := piece("abc")
	checkErrno(t, "Set", s.Set(y), api.OK)
	checkSends(t, s, 0, 0, 100, instruction(0, 2, "bc"))
	spoil(y) // it was sent, and is the state now
	checkSilent(t, s, 50, 0, 100, api.OK)
	checkSends(t, s, 100, 0, 100, instruction(0, 2, "bc"))
	checkErrno(t, "Ack", s.Ack(2), api.OK)
	checkSilent(t, s, 200, 0, 100, api.OK)

	p := &page{"a"}
	b := NewSender(p)
	p.text = "x"
	checkSends(t, b, 0, 0, 100, instruction(0, 0, ""))
	q := &page{"ab"}
	checkErrno(t, "Set", b.Set(q), api.OK)
	q.text = "y"
	checkSends(t, b, 0, 0, 100, instruction(0, 1, "b"))
	q.text = "abc"
	checkErrno(t, "Set", b.Set(q), api.OK)
	q.text = "z"
	checkSends(t, b, 0, 0, 100, instruction(0, 2, "bc"))
	checkErrno(t, "Set", b.Set(q), api.OK)
	checkSilent(t, b, 1, 0, 100, errDiff)
}

// P23.2: a difference that was answered may be a piece of a state: what is done to it changes nothing in the sender.
func TestOwnDiff(t *testing.T) {
	s := NewSender(piece("a"))
	checkErrno(t, "Set", s.Set(piece("abc")), api.OK)
	for now := uint64(0); now <= 1000; now += 100 {
		x, send, e := s.Tick(now, 0, 100)
		if !send || e != api.OK || !sameInstruction(x, instruction(0, 1, "bc")) {
			t.Fatalf("Tick(%d) = %v, %t, %d", now, x, send, e)
		}
		spoil(x.Diff)
	}
	checkErrno(t, "Ack", s.Ack(1), api.OK)
	checkSilent(t, s, 1100, 0, 100, api.OK)
	empty := NewSender(piece(""))
	checkErrno(t, "Set", empty.Set(piece("abc")), api.OK)
	x, _, _ := empty.Tick(0, 0, 100)
	y, _, _ := empty.Tick(100, 0, 100)
	spoil(x.Diff)
	if string(y.Diff) != "abc" {
		t.Error("two answers share memory")
	}
	checkSends(t, empty, 200, 0, 100, instruction(0, 1, "abc"))
}

// P23.1, P23.4: likewise of the first state of a receiver, and of what Take is handed, which stays as it is, the room behind its end too.
func TestOwnTake(t *testing.T) {
	for _, first := range []string{"", "a"} {
		x := piece(roomy([]byte(first), 'e'))
		r := NewReceiver(x)
		spoil(x)
		checkPiece(t, r, 0, first)
		diff := roomy([]byte("bc"), 'e')
		take := func(x api.Instruction, news bool) {
			t.Helper()
			if got, e := r.Take(x); got != news || e != api.OK {
				t.Errorf("Take(%v) = %t, %d", x, got, e)
			}
			if string(diff[:cap(diff)]) != "bceeeee" {
				t.Error("what was handed in did not stay as it was")
			}
		}
		take(api.Instruction{Old: 0, New: 2, Diff: diff}, true)
		take(api.Instruction{Old: 2, New: 3, Diff: diff}, true)
		take(api.Instruction{Old: 2, New: 4, Diff: diff[:1]}, true)
		take(api.Instruction{Old: 0, New: 1, Diff: diff}, false)
		spoil(diff)
		checkPiece(t, r, 4, first+"bcb")
		checkPiece(t, r, 4, first+"bcb")
		// Those below the last one, too, are as they were told.
		diff = roomy([]byte("bc"), 'e')
		take(api.Instruction{Old: 3, New: 5, Diff: diff}, true)
		checkPiece(t, r, 5, first+"bcbcbc")
		take(api.Instruction{Old: 2, New: 6, Diff: diff}, true)
		checkPiece(t, r, 6, first+"bcbc")
		take(api.Instruction{Old: 1, New: 7, Diff: diff}, true)
		checkPiece(t, r, 7, first+"bcbc")
		take(api.Instruction{Old: 0, New: 8, Diff: diff}, true)
		checkPiece(t, r, 8, first+"bc")
	}
}

// P23.4: a difference that Apply changes stays as it was handed in.
func TestOwnTakeChanged(t *testing.T) {
	r := NewReceiver(&page{"a"})
	for n, text := range []string{"", "b", "bad", "more"} {
		diff := roomy([]byte(text), 'e')
		r.Take(api.Instruction{New: uint64(n), Diff: diff})
		if string(diff[:cap(diff)]) != text+"eeeee" {
			t.Errorf("behind Take, %q is %q", text, diff[:cap(diff)])
		}
	}
	if n, x := r.Latest(); n != 3 || x.text != "amore" {
		t.Errorf("Latest = %d, %q", n, x.text)
	}
}

// P23.4: what Latest answers is a copy, also where it is a state behind a pointer.
func TestOwnLatest(t *testing.T) {
	first := &page{"a"}
	r := NewReceiver(first)
	first.text = "x"
	for range 2 {
		n, x := r.Latest()
		if n != 0 || x.text != "a" {
			t.Errorf("Latest = %d, %q", n, x.text)
		}
		x.text = "y"
	}
	r.Take(instruction(0, 1, "b"))
	_, x := r.Latest()
	x.text = "z"
	if _, y := r.Latest(); y.text != "ab" || x == y {
		t.Errorf("Latest = %q", y.text)
	}
	r.Take(instruction(1, 2, "c"))
	if _, y := r.Latest(); y.text != "abc" {
		t.Errorf("Latest = %q", y.text)
	}
}

// P23.4: what Holds answers shares no memory with the receiver, nor with another answer.
func TestOwnHolds(t *testing.T) {
	r := of(t, 2, 5)
	held, other := r.Holds(), r.Holds()
	for i := range held[:cap(held)] {
		held[:cap(held)][i] = 77
	}
	if !slices.Equal(other, []uint64{0, 2, 5}) {
		t.Errorf("two answers share memory: %d", other)
	}
	checkHolds(t, r, text(letters(5)), 0, 2, 5)
	checkTake(t, r, instruction(0, 77, ""), true, api.OK, "", 0, 2, 5, 77)
}

// P23.1: two senders of one state, and two receivers, share nothing.
func TestOwnTwo(t *testing.T) {
	first := &page{"a"}
	s, o := NewSender(first), NewSender(first)
	checkErrno(t, "Set", s.Set(&page{"ab"}), api.OK)
	checkSends(t, s, 0, 0, 100, instruction(0, 1, "b"))
	checkSends(t, o, 0, 0, 100, instruction(0, 0, ""))
	checkTold(t, o, 0, 0, 1)
	r, q := NewReceiver(first), NewReceiver(first)
	r.Take(instruction(0, 1, "b"))
	if n, x := q.Latest(); n != 0 || x.text != "a" || len(q.Holds()) != 1 {
		t.Errorf("Latest = %d, %q", n, x.text)
	}
	if first.text != "a" {
		t.Error("what was handed in did not stay as it was")
	}
}

// lined is a sender of a full row of texts, and what it told last.
func lined() (*Sender[text], api.Instruction) {
	s := NewSender(text(""))
	var x api.Instruction
	for i := range api.MaxStates - 1 {
		s.Set(text(strings.Repeat("x", i+1)))
		x, _, _ = s.Tick(0, 0, 100)
	}
	return s, x
}

func BenchmarkTick(b *testing.B) {
	s, _ := lined()
	for b.Loop() {
		s.Tick(0, 0, 0)
	}
}

func BenchmarkTake(b *testing.B) {
	_, x := lined()
	for b.Loop() {
		r := NewReceiver(text(""))
		for n := range uint64(api.MaxStates - 1) {
			x.New = n + 1
			r.Take(x)
		}
	}
}
