package ssp

import (
	"bytes"
	"slices"
	"strings"
	"testing"

	"wayfarer/api"
)

// noise is numbers that look like chance and are always the same ones.
type noise uint64

func (n *noise) next() uint64 {
	*n = *n*6364136223846793005 + 1442695040888963407
	return uint64(*n >> 32)
}

func (n *noise) below(count int) int {
	return int(n.next() % uint64(count))
}

func pick[T any](n *noise, l []T) T {
	return l[n.below(len(l))]
}

// Errors of the states of these tests.
const (
	errDiff  api.Errno = 901
	errApply api.Errno = 902
)

// text is a state that grows: its difference is what stands behind.
type text string

func (x text) Diff(from text) ([]byte, api.Errno) {
	if !strings.HasPrefix(string(x), string(from)) {
		return []byte("of an error"), errDiff
	}
	return []byte(x[len(from):]), api.OK
}

func (x text) Apply(diff []byte) (text, api.Errno) {
	if string(diff) == "bad" {
		return "of an error", errApply
	}
	return x + text(diff), api.OK
}

func (x text) Same(o text) bool { return x == o }
func (x text) Copy() text       { return x }

// word is a state that becomes any other one: its difference is never empty, and holds from one state alone.
type word string

func (x word) Diff(from word) ([]byte, api.Errno) {
	return []byte(from + ">" + x), api.OK
}

func (x word) Apply(diff []byte) (word, api.Errno) {
	from, to, whole := strings.Cut(string(diff), ">")
	if !whole || from != string(x) {
		return "of an error", errApply
	}
	return word(to), api.OK
}

func (x word) Same(o word) bool { return x == o }
func (x word) Copy() word       { return x }

// piece is a state as text that gives its memory away wherever it can, and goes on in what it is given.
type piece []byte

func (x piece) Diff(from piece) ([]byte, api.Errno) {
	if !bytes.HasPrefix(x, from) {
		return x, errDiff
	}
	return x[len(from):], api.OK
}

func (x piece) Apply(diff []byte) (piece, api.Errno) {
	if len(x) == 0 {
		return diff, api.OK
	}
	return append(x, diff...), api.OK
}

func (x piece) Same(o piece) bool { return bytes.Equal(x, o) }
func (x piece) Copy() piece       { return roomy(x, 'c') }

// page is a state behind a pointer, whose Apply changes the page itself and the difference, also where it has an error.
type page struct{ text string }

func (x *page) Diff(from *page) ([]byte, api.Errno) { return text(x.text).Diff(text(from.text)) }

func (x *page) Apply(diff []byte) (*page, api.Errno) {
	x.text += string(diff)
	spoil(diff)
	if strings.HasSuffix(x.text, "bad") {
		return x, errApply
	}
	return x, api.OK
}

func (x *page) Same(o *page) bool { return x.text == o.text }
func (x *page) Copy() *page       { return &page{x.text} }

// faults is what goes wrong with states: the errors that their methods answer, and which of them panics.
type faults struct {
	diff, apply api.Errno
	panics      string
}

// faulty is a state as text with the faults of its time; its difference from itself is not empty.
type faulty struct {
	text string
	of   *faults
}

func (f *faults) in(method string) {
	if f.panics == method {
		panic(method)
	}
}

func (x faulty) Diff(from faulty) ([]byte, api.Errno) {
	x.of.in("Diff")
	if x.of.diff != api.OK {
		return []byte("of an error"), x.of.diff
	}
	return []byte("from " + from.text + " to " + x.text), api.OK
}

func (x faulty) Apply(diff []byte) (faulty, api.Errno) {
	x.of.in("Apply")
	return faulty{x.text + string(diff), x.of}, x.of.apply
}

func (x faulty) Same(o faulty) bool {
	x.of.in("Same")
	return x.text == o.text
}

func (x faulty) Copy() faulty {
	x.of.in("Copy")
	return x
}

// open is a state of whatever kind: there may be none.
type open interface {
	Diff(from open) ([]byte, api.Errno)
	Apply(diff []byte) (open, api.Errno)
	Same(o open) bool
	Copy() open
}

// shut is the one kind of it.
type shut struct{}

func (shut) Diff(open) ([]byte, api.Errno)  { return []byte("d"), api.OK }
func (shut) Apply([]byte) (open, api.Errno) { return shut{}, api.OK }
func (shut) Same(o open) bool               { return o == open(shut{}) }
func (shut) Copy() open                     { return shut{} }

// instruction is what a sender tells.
func instruction(old, new uint64, diff string) api.Instruction {
	return api.Instruction{Old: old, New: new, Throw: old, Diff: []byte(diff)}
}

// thrown is an instruction with a Throw of its own.
func thrown(old, new, throw uint64, diff string) api.Instruction {
	return api.Instruction{Old: old, New: new, Throw: throw, Diff: []byte(diff)}
}

func sameInstruction(x, y api.Instruction) bool {
	return x.Old == y.Old && x.New == y.New && x.Ack == y.Ack && x.Throw == y.Throw && bytes.Equal(x.Diff, y.Diff)
}

// roomy is a list as l with room behind its end, which has elements of its own.
func roomy[T any](l []T, more T) []T {
	r := append(make([]T, 0, len(l)+5), l...)
	for range 5 {
		r = append(r, more)
	}
	return r[:len(l)]
}

// spoil turns all bytes of a list about, those in the room behind its end too.
func spoil(b []byte) {
	b = b[:cap(b)]
	for i := range b {
		b[i] ^= 255
	}
}

// checkTold holds what Told answers to three numbers.
func checkTold[S State[S]](t *testing.T, s *Sender[S], acked, last uint64, waits int) {
	t.Helper()
	if a, l, w := s.Told(); a != acked || l != last || w != waits {
		t.Errorf("Told = %d, %d, %d, want %d, %d, %d", a, l, w, acked, last, waits)
	}
}

// checkSends holds a Tick to sending an instruction.
func checkSends[S State[S]](t *testing.T, s *Sender[S], now uint64, pace, timeout int, want api.Instruction) {
	t.Helper()
	if x, send, e := s.Tick(now, pace, timeout); !sameInstruction(x, want) || !send || e != api.OK {
		t.Errorf("Tick(%d, %d, %d) = %v, %t, %d, want %v", now, pace, timeout, x, send, e, want)
	}
}

// checkSilent holds a Tick to sending nothing, with an error or none.
func checkSilent[S State[S]](t *testing.T, s *Sender[S], now uint64, pace, timeout int, want api.Errno) {
	t.Helper()
	if x, send, e := s.Tick(now, pace, timeout); !sameInstruction(x, api.Instruction{}) || send || e != want {
		t.Errorf("Tick(%d, %d, %d) = %v, %t, %d, want nothing, %d", now, pace, timeout, x, send, e, want)
	}
}

// checkErrno holds an error to the one that it should be.
func checkErrno(t *testing.T, what string, got, want api.Errno) {
	t.Helper()
	if got != want {
		t.Errorf("%s = %d, want %d", what, got, want)
	}
}

// checkTake holds Take to its answer, and the receiver behind it to its latest state and the numbers that it has.
func checkTake[S interface {
	comparable
	State[S]
}](t *testing.T, r *Receiver[S], x api.Instruction, news bool, e api.Errno, latest S, holds ...uint64) {
	t.Helper()
	if got, gotE := r.Take(x); got != news || gotE != e {
		t.Errorf("Take(%v) = %t, %d, want %t, %d", x, got, gotE, news, e)
	}
	checkHolds(t, r, latest, holds...)
}

// checkHolds holds a receiver to its latest state and the numbers that it has.
func checkHolds[S interface {
	comparable
	State[S]
}](t *testing.T, r *Receiver[S], latest S, holds ...uint64) {
	t.Helper()
	if got := r.Holds(); !slices.Equal(got, holds) {
		t.Errorf("Holds = %d, want %d", got, holds)
	}
	if n, x := r.Latest(); n != holds[len(holds)-1] || x != latest {
		t.Errorf("Latest = %d, %v, want %d, %v", n, x, holds[len(holds)-1], latest)
	}
}
