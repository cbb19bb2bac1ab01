package ssp

import (
	"maps"
	"math/big"
	"slices"
	"testing"

	"wayfarer/api"
)

// waited is whether a clock is at least a time and so many milliseconds together, as if numbers had no end; what never was is so long ago.
func waited(now uint64, since *big.Int, ms int) bool {
	if since == nil {
		return true
	}
	return big.NewInt(0).SetUint64(now).Cmp(big.NewInt(0).Add(since, big.NewInt(int64(ms)))) >= 0
}

// slowSent is a state that was sent, its number, and when that was last.
type slowSent[S State[S]] struct {
	n  uint64
	x  S
	at *big.Int
}

// slowSender is a sender by the chapter's words.
type slowSender[S State[S]] struct {
	now   S
	row   []slowSent[S]
	at    *big.Int
	clock uint64
}

func newSlowSender[S State[S]](first S) *slowSender[S] {
	return &slowSender[S]{now: first.Copy(), row: []slowSent[S]{{x: first.Copy()}}}
}

func (s *slowSender[S]) ack(n uint64) api.Errno {
	for i, x := range s.row {
		if x.n == n {
			s.row = slices.Clone(s.row[i:])
			return api.OK
		}
	}
	return api.ErrFar
}

func (s *slowSender[S]) tick(now uint64, pace, timeout int) (x api.Instruction, send bool, e api.Errno) {
	if pace < 0 || timeout < 0 || now < s.clock {
		return api.Instruction{}, false, api.ErrArg
	}
	row := slices.Clone(s.row)
	last := row[len(row)-1]
	switch {
	case !s.now.Same(last.x) && len(row) < 32 && (s.at == nil || waited(now, s.at, pace)):
		row = append(row, slowSent[S]{n: last.n + 1, x: s.now.Copy()})
	case len(row) > 1 && waited(now, last.at, timeout):
	case s.at == nil || waited(now, s.at, 3000):
	default:
		s.clock = now
		return api.Instruction{}, false, api.OK
	}
	last = row[len(row)-1]
	var diff []byte
	if len(row) > 1 {
		if diff, e = last.x.Diff(row[0].x); e != api.OK {
			return api.Instruction{}, false, e
		}
	}
	s.clock, s.at, s.row = now, big.NewInt(0).SetUint64(now), row
	s.row[len(row)-1].at = s.at
	return api.Instruction{Old: row[0].n, New: last.n, Throw: row[0].n, Diff: slices.Clone(diff)}, true, api.OK
}

func (s *slowSender[S]) told() (acked, last uint64, waits int) {
	return s.row[0].n, s.row[len(s.row)-1].n, len(s.row)
}

// slowReceiver is a receiver by the chapter's words.
type slowReceiver[S State[S]] map[uint64]S

func newSlowReceiver[S State[S]](first S) slowReceiver[S] {
	return slowReceiver[S]{0: first.Copy()}
}

func (r slowReceiver[S]) holds() []uint64 {
	return slices.Sorted(maps.Keys(r))
}

func (r slowReceiver[S]) latest() uint64 {
	return slices.Max(r.holds())
}

// throw lets go of what lies below a number, but for the greatest.
func (r slowReceiver[S]) throw(below uint64) {
	for _, n := range r.holds() {
		if n < below && n != r.latest() {
			delete(r, n)
		}
	}
}

func (r slowReceiver[S]) take(x api.Instruction) (news bool, e api.Errno) {
	if _, has := r[x.New]; has {
		r.throw(x.Throw)
		return false, api.OK
	}
	old, has := r[x.Old]
	if !has || x.New < x.Old {
		return false, api.ErrFar
	}
	stay := 0
	for n := range r {
		if n >= x.Throw {
			stay++
		}
	}
	if stay >= 32 {
		return false, api.ErrFull
	}
	made, e := old.Copy().Apply(slices.Clone(x.Diff))
	if e != api.OK {
		return false, e
	}
	r[x.New] = made
	r.throw(x.Throw)
	return r.latest() == x.New, api.OK
}

// pair is a sender and a slow one that is handed the same.
type pair[S State[S]] struct {
	t    *testing.T
	fast *Sender[S]
	slow *slowSender[S]
}

func newPair[S State[S]](t *testing.T, first S) pair[S] {
	return pair[S]{t, NewSender(first), newSlowSender(first)}
}

func (p pair[S]) set(x S) {
	p.t.Helper()
	checkErrno(p.t, "Set", p.fast.Set(x), api.OK)
	p.slow.now = x.Copy()
	p.checkTold()
}

func (p pair[S]) ack(n uint64) {
	p.t.Helper()
	checkErrno(p.t, "Ack", p.fast.Ack(n), p.slow.ack(n))
	p.checkTold()
}

// tick answers what both do, where that is one thing.
func (p pair[S]) tick(now uint64, pace, timeout int) (api.Instruction, bool, api.Errno) {
	p.t.Helper()
	x, send, e := p.fast.Tick(now, pace, timeout)
	y, slowSend, slowE := p.slow.tick(now, pace, timeout)
	if !sameInstruction(x, y) || send != slowSend || e != slowE {
		p.t.Fatalf("Tick(%d, %d, %d) = %v, %t, %d; the chapter's words make %v, %t, %d", now, pace, timeout, x, send, e, y, slowSend, slowE)
	}
	p.checkTold()
	return x, send, e
}

func (p pair[S]) checkTold() {
	p.t.Helper()
	acked, last, waits := p.slow.told()
	checkTold(p.t, p.fast, acked, last, waits)
}

// takers is a receiver and a slow one that is handed the same.
type takers[S State[S]] struct {
	t    *testing.T
	fast *Receiver[S]
	slow slowReceiver[S]
}

func newTakers[S State[S]](t *testing.T, first S) takers[S] {
	return takers[S]{t, NewReceiver(first), newSlowReceiver(first)}
}

func (p takers[S]) take(x api.Instruction) (bool, api.Errno) {
	p.t.Helper()
	news, e := p.fast.Take(x)
	slowNews, slowE := p.slow.take(x)
	if news != slowNews || e != slowE {
		p.t.Fatalf("Take(%v) = %t, %d; the chapter's words make %t, %d", x, news, e, slowNews, slowE)
	}
	p.check()
	return news, e
}

func (p takers[S]) check() {
	p.t.Helper()
	if got, want := p.fast.Holds(), p.slow.holds(); !slices.Equal(got, want) {
		p.t.Fatalf("Holds = %d; the chapter's words make %d", got, want)
	}
	n, x := p.fast.Latest()
	if want := p.slow.latest(); n != want || !x.Same(p.slow[want]) {
		p.t.Fatalf("Latest = %d, %v; the chapter's words make %d, %v", n, x, want, p.slow[want])
	}
}
