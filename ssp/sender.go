package ssp

import (
	"slices"

	"wayfarer/api"
)

// Sender tells the other side a state that changes. It is made by NewSender alone.
type Sender[S State[S]] struct {
	state S      // as it is now
	row   []S    // what was sent, from the acked state on: never empty, but in a sender that no call made
	acked uint64 // the first one's number; each one behind it has one more
	spoke bool   // whether anything was sent
	sent  uint64 // when that was last: it was the last one of the row, as all that is sent is
	clock uint64 // of the last Tick that was not refused
}

// NewSender is a sender of whose state the other side has the first one.
func NewSender[S State[S]](first S) *Sender[S] {
	x, e := copied(first)
	if e != api.OK {
		return nil
	}
	return &Sender[S]{state: x, row: []S{x}}
}

// there is whether a call made s.
func (s *Sender[S]) there() bool {
	return s != nil && len(s.row) > 0
}

// Set makes x the state now.
func (s *Sender[S]) Set(x S) api.Errno {
	if !s.there() {
		return api.ErrNil
	}
	x, e := copied(x)
	if e != api.OK {
		return e
	}
	s.state = x
	return api.OK
}

// Ack is told that the other side has the state n.
func (s *Sender[S]) Ack(n uint64) api.Errno {
	if !s.there() {
		return api.ErrNil
	}
	if n < s.acked || n-s.acked >= uint64(len(s.row)) {
		return api.ErrFar
	}
	// A list of its own, so that those ahead are not kept.
	s.row = slices.Clone(s.row[n-s.acked:])
	s.acked = n
	return api.OK
}

// Tick is the instruction that is to be sent now, if one is.
func (s *Sender[S]) Tick(now uint64, pace, timeout int) (x api.Instruction, send bool, e api.Errno) {
	if !s.there() {
		return api.Instruction{}, false, api.ErrNil
	}
	if pace < 0 || timeout < 0 || now < s.clock {
		return api.Instruction{}, false, api.ErrArg
	}
	var row []S
	x, e = asked(func() (api.Instruction, api.Errno) {
		row = s.due(now, pace, timeout)
		return told(row, s.acked)
	})
	if e != api.OK {
		return api.Instruction{}, false, e
	}
	s.clock = now
	if len(row) == 0 {
		return api.Instruction{}, false, api.OK
	}
	s.row, s.sent, s.spoke = row, now, true
	return x, true, api.OK
}

// due is the row whose last state is to be sent now, which may be one longer than the one that is there; none if nothing is to be sent.
func (s *Sender[S]) due(now uint64, pace, timeout int) []S {
	// Clocks never fall: the time between is a difference that cannot come round, where a sum could.
	after := func(ms int) bool { return !s.spoke || now-s.sent >= uint64(ms) }
	count := len(s.row)
	switch {
	case count < api.MaxStates && after(pace) && !s.state.Same(s.row[count-1]):
		// Without room behind it: a row that is refused is not to stand behind the one that stays.
		return append(s.row[:count:count], s.state)
	case count > 1 && after(timeout), after(api.MaxHeart):
		return s.row
	}
	return nil
}

// told is the instruction that tells the last state of a row, whose first one has the number acked: a zero one of none.
func told[S State[S]](row []S, acked uint64) (api.Instruction, api.Errno) {
	if len(row) == 0 {
		return api.Instruction{}, api.OK
	}
	x := api.Instruction{Old: acked, New: acked + uint64(len(row)-1), Throw: acked}
	// The only one is no difference from itself, whatever bytes its Diff would have.
	if len(row) == 1 {
		return x, api.OK
	}
	diff, e := row[len(row)-1].Diff(row[0])
	// It may be a piece of the state itself.
	x.Diff = slices.Clone(diff)
	return x, e
}

// Told is the first number of the row, the last one, and how many states the row has.
func (s *Sender[S]) Told() (acked, last uint64, waits int) {
	if !s.there() {
		return 0, 0, 0
	}
	return s.acked, s.acked + uint64(len(s.row)-1), len(s.row)
}
