package ssp

import (
	"math"
	"strconv"
	"strings"
	"testing"

	"wayfarer/api"
)

// P23.1, P23.2, P23.3: the examples of the chapter.
func TestSenderExamples(t *testing.T) {
	s := NewSender(text("a"))
	checkErrno(t, "Set", s.Set("ab"), api.OK)
	checkSends(t, s, 0, 20, 100, instruction(0, 1, "b"))
	checkSilent(t, s, 10, 20, 100, api.OK)
	checkSends(t, s, 100, 20, 100, instruction(0, 1, "b"))
	checkErrno(t, "Ack(1)", s.Ack(1), api.OK)
	checkSilent(t, s, 150, 20, 100, api.OK)
	checkErrno(t, "Ack(9)", s.Ack(9), api.ErrFar)
}

// P23.1, P23.2, P23.3: each call on a sender that is not there, and on one that no call made.
func TestSenderNotThere(t *testing.T) {
	for _, s := range []*Sender[text]{nil, {}, new(Sender[text])} {
		for range 2 {
			checkErrno(t, "Set", s.Set("a"), api.ErrNil)
			checkErrno(t, "Ack(0)", s.Ack(0), api.ErrNil)
			checkErrno(t, "Ack(9)", s.Ack(9), api.ErrNil)
			checkSilent(t, s, 0, 0, 0, api.ErrNil)
			checkSilent(t, s, 5000, 20, 100, api.ErrNil)
			checkSilent(t, s, 1, -1, -1, api.ErrNil)
			checkTold(t, s, 0, 0, 0)
		}
	}
	var p *Sender[*page]
	checkErrno(t, "Set", p.Set(nil), api.ErrNil)
}

// P23.1: a new sender has one state, that of the number 0, which is acked.
func TestNewSender(t *testing.T) {
	s := NewSender(text("a"))
	checkTold(t, s, 0, 0, 1)
	checkErrno(t, "Ack(1)", s.Ack(1), api.ErrFar)
	checkErrno(t, "Ack(0)", s.Ack(0), api.OK)
	checkTold(t, s, 0, 0, 1)
}

// rowed is a sender of the states a, ab, abc .., so many in its row, the last one sent at the time 100.
func rowed(t *testing.T, count int) *Sender[text] {
	t.Helper()
	s := NewSender(text("a"))
	x := text("a")
	for i := 1; i < count; i++ {
		x += text(rune('a' + i%26))
		checkErrno(t, "Set", s.Set(x), api.OK)
		checkSends(t, s, 100, 0, 100, instruction(0, uint64(i), string(x[1:])))
	}
	checkTold(t, s, 0, uint64(count-1), count)
	return s
}

// P23.1: Ack of each number of a row, of each other one, and of the same one twice.
func TestAck(t *testing.T) {
	const count = 5
	for first := range uint64(count) {
		for second := range uint64(count + 3) {
			s := rowed(t, count)
			checkErrno(t, "Ack", s.Ack(first), api.OK)
			checkTold(t, s, first, count-1, count-int(first))
			want, acked := api.OK, second
			if second < first || second >= count {
				want, acked = api.ErrFar, first
			}
			checkErrno(t, "Ack", s.Ack(second), want)
			checkTold(t, s, acked, count-1, count-int(acked))
		}
	}
}

// P23.1: Ack of numbers that no row has.
func TestAckFar(t *testing.T) {
	for _, acked := range []uint64{0, 1, 3, 4} {
		s := rowed(t, 5)
		checkErrno(t, "Ack", s.Ack(acked), api.OK)
		far := []uint64{5, 6, 5 + acked, 1 << 31, 1<<32 + 4, 1 << 62, 1<<63 - 1, 1 << 63, 1<<63 + 4, math.MaxUint64 - 1, math.MaxUint64, acked - 1, acked - 5}
		for _, n := range far {
			if n >= acked && n < 5 {
				continue
			}
			checkErrno(t, "Ack", s.Ack(n), api.ErrFar)
			checkTold(t, s, acked, 4, 5-int(acked))
		}
	}
}

// P23.1: an Ack is no sending, and what is set stays.
func TestAckSendsNothing(t *testing.T) {
	s := rowed(t, 3)
	checkErrno(t, "Set", s.Set("abcd"), api.OK)
	checkErrno(t, "Ack", s.Ack(2), api.OK)
	checkSilent(t, s, 119, 20, 100, api.OK)
	checkSends(t, s, 120, 20, 100, instruction(2, 3, "d"))
}

// P23.2: arguments that may not be, each alone, and ahead of all else; nothing is changed by them.
func TestTickArguments(t *testing.T) {
	s := NewSender(text("a"))
	checkErrno(t, "Set", s.Set("b"), api.OK) // no difference leads there: an error of its own, were it asked
	for _, bad := range []int{-1, -2, -3000, math.MinInt, math.MinInt + 1} {
		for _, good := range []int{0, 1, math.MaxInt} {
			checkSilent(t, s, 1000, bad, good, api.ErrArg)
			checkSilent(t, s, 1000, good, bad, api.ErrArg)
		}
		checkSilent(t, s, math.MaxUint64, bad, bad, api.ErrArg)
	}
	checkTold(t, s, 0, 0, 1)
	checkErrno(t, "Set", s.Set("ab"), api.OK)
	checkSends(t, s, 0, 0, 0, instruction(0, 1, "b")) // the clocks of what was refused are none
}

// P23.2: the greatest pace and timeout: the heart goes on alone.
func TestTickGreatest(t *testing.T) {
	s := NewSender(text(""))
	checkErrno(t, "Set", s.Set("1"), api.OK)
	checkSends(t, s, 5, math.MaxInt, math.MaxInt, instruction(0, 1, "1"))
	checkErrno(t, "Set", s.Set("12"), api.OK)
	checkSilent(t, s, 3004, math.MaxInt, math.MaxInt, api.OK)
	checkSends(t, s, 3005, math.MaxInt, math.MaxInt, instruction(0, 1, "1"))
	checkSilent(t, s, 6004, math.MaxInt, math.MaxInt, api.OK)
	checkSends(t, s, 6005+math.MaxInt, math.MaxInt, math.MaxInt, instruction(0, 2, "12"))
	checkSends(t, s, math.MaxUint64, math.MaxInt, math.MaxInt, instruction(0, 2, "12"))
}

// P23.2: the greatest clocks, from the least one on: no sum comes round.
func TestTickClockEnds(t *testing.T) {
	const end = math.MaxUint64
	s := NewSender(text(""))
	checkErrno(t, "Set", s.Set("1"), api.OK)
	checkSends(t, s, end-2, 20, 100, instruction(0, 1, "1"))
	checkSilent(t, s, end-1, 2, 2, api.OK)
	checkSilent(t, s, end-1, math.MaxInt, math.MaxInt, api.OK)
	checkSilent(t, s, end, 3, 3, api.OK)
	checkErrno(t, "Set", s.Set("12"), api.OK)
	checkSilent(t, s, end, 3, 3, api.OK)
	checkSends(t, s, end, 2, 3, instruction(0, 2, "12"))
	checkSilent(t, s, end, 1, 1, api.OK)
	checkSends(t, s, end, 1, 0, instruction(0, 2, "12"))
	checkSilent(t, s, end-1, 0, 0, api.ErrArg)
	checkSilent(t, s, 0, 0, 0, api.ErrArg)

	z := NewSender(text(""))
	checkSends(t, z, 0, 20, 100, instruction(0, 0, ""))
	checkSilent(t, z, 0, 20, 100, api.OK)
	checkSends(t, z, end, 20, 100, instruction(0, 0, ""))
	checkSilent(t, z, end, 20, 100, api.OK)
}

// P23.2: a clock below that of an earlier Tick, which may have sent something or not; one that was refused is none.
func TestTickClock(t *testing.T) {
	s := NewSender(text("a"))
	checkErrno(t, "Set", s.Set("ab"), api.OK)
	checkSends(t, s, 50, 20, 100, instruction(0, 1, "b"))
	checkSilent(t, s, 49, 20, 100, api.ErrArg)
	checkSilent(t, s, 0, 20, 100, api.ErrArg)
	checkSilent(t, s, 50, 20, 100, api.OK)
	checkSilent(t, s, 60, 20, 100, api.OK)
	checkSilent(t, s, 59, 20, 100, api.ErrArg)
	checkSilent(t, s, 51, 0, 0, api.ErrArg)
	checkSilent(t, s, 61, 20, -1, api.ErrArg)
	checkSilent(t, s, 60, 20, 100, api.OK)
	checkErrno(t, "Set", s.Set("b"), api.OK)
	checkSilent(t, s, 90, 20, 100, errDiff)
	checkErrno(t, "Set", s.Set("abc"), api.OK)
	checkSilent(t, s, 59, 0, 0, api.ErrArg)
	checkSends(t, s, 80, 20, 100, instruction(0, 2, "bc"))
	checkSilent(t, s, 79, 20, 100, api.ErrArg)
}

// P23.2: what never sent sends at once: a state that is news, or a heart.
func TestTickFirst(t *testing.T) {
	for _, now := range []uint64{0, 1, 2999, 3000, math.MaxUint64} {
		s := NewSender(text("a"))
		checkSends(t, s, now, math.MaxInt, math.MaxInt, instruction(0, 0, ""))
		checkSilent(t, s, now, 0, 0, api.OK)
		checkTold(t, s, 0, 0, 1)
		n := NewSender(text("a"))
		checkErrno(t, "Set", n.Set("ab"), api.OK)
		checkSends(t, n, now, math.MaxInt, math.MaxInt, instruction(0, 1, "b"))
		checkTold(t, n, 0, 1, 2)
	}
}

// P23.2: news, one unit of time ahead of its bound, at it, and behind it.
func TestTickPace(t *testing.T) {
	for _, pace := range []int{0, 1, 20, 250, 2999, 3000, 3001, 5000} {
		for _, ahead := range []int{1, 0, -1} {
			s := rowed(t, 2)
			checkErrno(t, "Ack", s.Ack(1), api.OK)
			checkErrno(t, "Set", s.Set("abc"), api.OK)
			wait := pace - ahead
			switch {
			case wait < 0:
				checkSilent(t, s, 99, pace, 0, api.ErrArg)
			case wait >= pace:
				checkSends(t, s, uint64(100+wait), pace, 0, instruction(1, 2, "c"))
			case wait >= 3000:
				checkSends(t, s, uint64(100+wait), pace, 0, instruction(1, 1, ""))
			default:
				checkSilent(t, s, uint64(100+wait), pace, 0, api.OK)
			}
		}
	}
}

// P23.2: what was not acked is sent again, one unit of time ahead of its bound, at it, and behind it; what was acked is not.
func TestTickTimeout(t *testing.T) {
	for _, timeout := range []int{1, 100, 2999, 3000, 3001, 5000} {
		for _, ahead := range []int{1, 0, -1} {
			wait := timeout - ahead
			s := rowed(t, 3)
			if wait >= timeout || wait >= 3000 {
				checkSends(t, s, uint64(100+wait), 0, timeout, instruction(0, 2, "bc"))
				checkSilent(t, s, uint64(100+wait), 0, timeout, api.OK)
			} else {
				checkSilent(t, s, uint64(100+wait), 0, timeout, api.OK)
			}
			acked := rowed(t, 3)
			checkErrno(t, "Ack", acked.Ack(2), api.OK)
			if wait >= 3000 {
				checkSends(t, acked, uint64(100+wait), 0, timeout, instruction(2, 2, ""))
			} else {
				checkSilent(t, acked, uint64(100+wait), 0, timeout, api.OK)
			}
		}
	}
	s := rowed(t, 2)
	checkSends(t, s, 100, 0, 0, instruction(0, 1, "b"))
	checkSends(t, s, 100, 0, 0, instruction(0, 1, "b"))
	checkErrno(t, "Ack", s.Ack(1), api.OK)
	checkSilent(t, s, 100, 0, 0, api.OK)
}

// P23.2: the timeout counts from the last sending on, whatever was sent then.
func TestTickTimeoutAgain(t *testing.T) {
	s := rowed(t, 2)
	checkSends(t, s, 200, 20, 100, instruction(0, 1, "b"))
	checkSilent(t, s, 299, 20, 100, api.OK)
	checkErrno(t, "Set", s.Set("abc"), api.OK)
	checkSends(t, s, 299, 20, 100, instruction(0, 2, "bc"))
	checkSilent(t, s, 300, 20, 100, api.OK)
	checkSilent(t, s, 398, 20, 100, api.OK)
	checkSends(t, s, 399, 20, 100, instruction(0, 2, "bc"))
}

// P23.2: a heart, one unit of time ahead of its bound, at it, and behind it; all that is sent counts for it.
func TestTickHeart(t *testing.T) {
	for _, wait := range []uint64{2999, 3000, 3001} {
		s := rowed(t, 2)
		checkErrno(t, "Ack", s.Ack(1), api.OK)
		if wait < 3000 {
			checkSilent(t, s, 100+wait, 0, 0, api.OK)
			continue
		}
		checkSends(t, s, 100+wait, 0, 0, instruction(1, 1, ""))
		checkSilent(t, s, 100+wait, 0, 0, api.OK)
		checkSilent(t, s, 100+wait+2999, 0, 0, api.OK)
		checkErrno(t, "Set", s.Set("abc"), api.OK)
		checkSends(t, s, 100+wait+2999, 0, 0, instruction(1, 2, "c"))
		checkErrno(t, "Ack", s.Ack(2), api.OK)
		checkSilent(t, s, 100+wait+2999+2999, 0, 0, api.OK)
		checkSends(t, s, 100+wait+2999+3000, 0, 0, instruction(2, 2, ""))
	}
}

// P23.2: a heart of a row of more than one is the last one, with its difference.
func TestTickHeartOfMany(t *testing.T) {
	s := rowed(t, 4)
	checkSilent(t, s, 3099, math.MaxInt, 3001, api.OK)
	checkSends(t, s, 3100, math.MaxInt, 3001, instruction(0, 3, "bcd"))
	checkErrno(t, "Ack", s.Ack(2), api.OK)
	checkSilent(t, s, 6099, math.MaxInt, 5000, api.OK)
	checkSends(t, s, 6100, math.MaxInt, 5000, instruction(2, 3, "d"))
}

// P23.2: the heart of the only state has an empty difference, whatever its difference from itself would be.
func TestTickHeartEmpty(t *testing.T) {
	w := NewSender(word("a"))
	checkSends(t, w, 0, 0, 0, instruction(0, 0, ""))
	checkErrno(t, "Set", w.Set("b"), api.OK)
	checkSends(t, w, 0, 0, 0, instruction(0, 1, "a>b"))
	checkErrno(t, "Ack", w.Ack(1), api.OK)
	checkSends(t, w, 3000, 0, 0, instruction(1, 1, ""))

	f := NewSender(faulty{"a", &faults{diff: errDiff}})
	checkSends(t, f, 7, 0, 0, instruction(0, 0, ""))
	g := NewSender(faulty{"a", &faults{panics: "Diff"}})
	checkSends(t, g, 7, 0, 0, instruction(0, 0, ""))
}

// P23.2: where more than one may be so, the first one counts.
func TestTickTwoAtOnce(t *testing.T) {
	// News and the timeout; behind it the timeout alone.
	s := rowed(t, 2)
	checkErrno(t, "Set", s.Set("abc"), api.OK)
	checkSends(t, s, 200, 100, 100, instruction(0, 2, "bc"))
	checkSilent(t, s, 200, 100, 100, api.OK)
	// The timeout is due, and news is not yet.
	s = rowed(t, 2)
	checkErrno(t, "Set", s.Set("abc"), api.OK)
	checkSends(t, s, 200, 101, 100, instruction(0, 1, "b"))
	checkSilent(t, s, 300, 101, 101, api.OK)
	checkSends(t, s, 301, 101, 101, instruction(0, 2, "bc"))
	// News and the heart.
	s = rowed(t, 2)
	checkErrno(t, "Ack", s.Ack(1), api.OK)
	checkErrno(t, "Set", s.Set("abc"), api.OK)
	checkSends(t, s, 3100, 3000, 100, instruction(1, 2, "c"))
	// The heart is due, and news is not yet.
	s = rowed(t, 2)
	checkErrno(t, "Ack", s.Ack(1), api.OK)
	checkErrno(t, "Set", s.Set("abc"), api.OK)
	checkSends(t, s, 3100, 3001, 100, instruction(1, 1, ""))
	checkSilent(t, s, 3101, 3001, 100, api.OK) // the heart was a sending
	checkSends(t, s, 6101, 3001, 100, instruction(1, 2, "c"))
	// All three.
	s = rowed(t, 2)
	checkErrno(t, "Set", s.Set("abc"), api.OK)
	checkSends(t, s, 3100, 3000, 3000, instruction(0, 2, "bc"))
	// The timeout and the heart: once.
	s = rowed(t, 2)
	checkSends(t, s, 3100, 0, 3000, instruction(0, 1, "b"))
	checkSilent(t, s, 3100, 0, 3000, api.OK)
	// Never sent, and news, whose number goes on.
	s = NewSender(text("a"))
	checkErrno(t, "Set", s.Set("ab"), api.OK)
	checkSends(t, s, 3000, 3000, 3000, instruction(0, 1, "b"))
	checkSilent(t, s, 3000, 3000, 3000, api.OK)
}

// P23.1, P23.2: a state set to what it was, set twice ahead of a Tick, and set back to the last one of the row.
func TestTickSet(t *testing.T) {
	s := NewSender(text("a"))
	checkErrno(t, "Set", s.Set("a"), api.OK)
	checkSends(t, s, 0, 0, 100, instruction(0, 0, "")) // a heart
	checkErrno(t, "Set", s.Set("ab"), api.OK)
	checkErrno(t, "Set", s.Set("abc"), api.OK)
	checkTold(t, s, 0, 0, 1)
	checkSends(t, s, 0, 0, 100, instruction(0, 1, "bc"))
	checkErrno(t, "Set", s.Set("abcd"), api.OK)
	checkErrno(t, "Set", s.Set("abc"), api.OK)
	checkSilent(t, s, 50, 0, 100, api.OK)
	checkErrno(t, "Set", s.Set("abc"), api.OK)
	checkSilent(t, s, 99, 0, 100, api.OK)
	checkTold(t, s, 0, 1, 2)
}

// P23.2: a state set back to the first one of the row, which is not the last one, is news.
func TestTickSetBack(t *testing.T) {
	s := NewSender(word("a"))
	checkErrno(t, "Set", s.Set("b"), api.OK)
	checkSends(t, s, 0, 0, 100, instruction(0, 1, "a>b"))
	checkErrno(t, "Set", s.Set("a"), api.OK)
	checkSends(t, s, 1, 0, 100, instruction(0, 2, "a>a"))
	checkTold(t, s, 0, 2, 3)
	checkErrno(t, "Ack", s.Ack(1), api.OK)
	checkSends(t, s, 101, 0, 100, instruction(1, 2, "b>a"))
	checkErrno(t, "Ack", s.Ack(2), api.OK)
	checkSilent(t, s, 300, 0, 100, api.OK)
	checkErrno(t, "Set", s.Set("b"), api.OK)
	checkErrno(t, "Set", s.Set("a"), api.OK)
	checkSilent(t, s, 300, 0, 100, api.OK)
}

// P23.2: a row of MaxStates states, of one fewer, and one that goes on behind an Ack.
func TestTickFull(t *testing.T) {
	s := rowed(t, api.MaxStates-1)
	whole := text(strings.Repeat("x", api.MaxStates+5))
	checkErrno(t, "Set", s.Set("a"+whole), api.OK)
	checkSilent(t, s, 101, 2, 100, api.OK)
	s = rowed(t, api.MaxStates)
	last := "bcdefghijklmnopqrstuvwxyzabcdef"
	checkErrno(t, "Set", s.Set("a"+text(last)+"!"), api.OK)
	checkSilent(t, s, 199, 0, 100, api.OK)
	checkSends(t, s, 200, 0, 100, instruction(0, 31, last))
	checkErrno(t, "Ack(32)", s.Ack(32), api.ErrFar)
	checkErrno(t, "Ack(0)", s.Ack(0), api.OK)
	checkSilent(t, s, 201, 0, 100, api.OK)
	checkSends(t, s, 3200, 0, 5000, instruction(0, 31, last))
	checkTold(t, s, 0, 31, 32)
	checkErrno(t, "Ack(1)", s.Ack(1), api.OK)
	checkSends(t, s, 3200, 0, 100, instruction(1, 32, last[1:]+"!"))
	checkTold(t, s, 1, 32, 32)
	checkErrno(t, "Set", s.Set("a"+text(last)+"!!"), api.OK)
	checkSilent(t, s, 3201, 0, 100, api.OK)
	checkErrno(t, "Ack(32)", s.Ack(32), api.OK)
	checkSends(t, s, 3201, 0, 100, instruction(32, 33, "!"))
	checkTold(t, s, 32, 33, 2)
}

// P23.2: the numbers go on by one, many rows long.
func TestTickNumbers(t *testing.T) {
	s := NewSender(word("0"))
	for i := uint64(1); i <= 2000; i++ {
		checkErrno(t, "Set", s.Set(word(strconv.FormatUint(i, 10))), api.OK)
		if x, send, e := s.Tick(i, 1, 1000); x.New != i || !send || e != api.OK {
			t.Fatalf("Tick = %v, %t, %d, want %d", x, send, e, i)
		}
		if i%20 == 0 {
			acked := i - i%7
			checkErrno(t, "Ack", s.Ack(acked), api.OK)
			checkTold(t, s, acked, i, int(i-acked)+1)
		}
	}
}

// P23.2: what is sent again behind an Ack is the difference from the state that is acked then.
func TestTickBehindAck(t *testing.T) {
	for acked := range uint64(5) {
		s := rowed(t, 6)
		checkErrno(t, "Ack", s.Ack(acked), api.OK)
		checkSends(t, s, 200, 20, 100, instruction(acked, 5, "abcdef"[acked+1:]))
		checkErrno(t, "Set", s.Set("abcdefg"), api.OK)
		checkSends(t, s, 220, 20, 100, instruction(acked, 6, "abcdefg"[acked+1:]))
	}
}

// P23.2: a difference that has an error, of news, of what is sent again, of a heart: nothing is changed by it.
func TestTickRefused(t *testing.T) {
	f := &faults{}
	s := NewSender(faulty{"a", f})
	checkErrno(t, "Set", s.Set(faulty{"b", f}), api.OK)
	refused := func(now uint64, pace, timeout int) {
		t.Helper()
		acked, last, waits := s.Told()
		for _, e := range []api.Errno{errDiff, api.ErrLimit, -1} {
			f.diff = e
			checkSilent(t, s, now, pace, timeout, e)
			checkSilent(t, s, now+5000, 0, 0, e)
			checkTold(t, s, acked, last, waits)
		}
		f.diff = api.OK
	}
	refused(100, 20, 100)
	checkSends(t, s, 50, 20, 100, instruction(0, 1, "from a to b"))
	refused(150, 20, 100) // sent again
	checkSends(t, s, 150, 20, 100, instruction(0, 1, "from a to b"))
	refused(3150, 20, 5000) // a heart
	checkSilent(t, s, 3149, 20, 5000, api.OK)
	checkSends(t, s, 3150, 20, 5000, instruction(0, 1, "from a to b"))
	checkErrno(t, "Set", s.Set(faulty{"c", f}), api.OK)
	refused(3170, 20, 5000) // news
	checkSilent(t, s, 3169, 20, 5000, api.OK)
	checkErrno(t, "Set", s.Set(faulty{"d", f}), api.OK)
	checkSends(t, s, 3170, 20, 5000, instruction(0, 2, "from a to d"))
	checkTold(t, s, 0, 2, 3)
}

// P23.2: an error of news is the answer where what was sent is due, too.
func TestTickRefusedFirst(t *testing.T) {
	s := NewSender(text("a"))
	checkErrno(t, "Set", s.Set("ab"), api.OK)
	checkSends(t, s, 0, 20, 100, instruction(0, 1, "b"))
	checkErrno(t, "Set", s.Set("c"), api.OK)
	checkSilent(t, s, 100, 20, 100, errDiff)
	checkSilent(t, s, 9000, 20, 100, errDiff)
	checkSends(t, s, 100, 101, 100, instruction(0, 1, "b"))
	checkErrno(t, "Set", s.Set("abc"), api.OK)
	checkSends(t, s, 120, 20, 100, instruction(0, 2, "bc"))
}

// P23.2: what is sent again may have an error that it did not have ahead of an Ack.
func TestTickRefusedBehindAck(t *testing.T) {
	s := NewSender(text("a"))
	for i, x := range []text{"ab", "ac"} {
		checkErrno(t, "Set", s.Set(x), api.OK)
		checkSends(t, s, 0, 0, 100, instruction(0, uint64(i+1), string(x[1:])))
	}
	checkErrno(t, "Ack", s.Ack(1), api.OK)
	checkSilent(t, s, 100, 0, 100, errDiff)
	checkSilent(t, s, 3000, 0, 5000, errDiff)
	checkTold(t, s, 1, 2, 2)
	checkErrno(t, "Ack", s.Ack(2), api.OK)
	checkSilent(t, s, 100, 0, 100, api.OK)
	checkSends(t, s, 3000, 0, 5000, instruction(2, 2, ""))
}

// P23.1, P23.2: a state that panics ends no call so, and nothing is changed by it.
func TestSenderPanics(t *testing.T) {
	f := &faults{panics: "Copy"}
	s := NewSender(faulty{"a", f})
	if s != nil {
		t.Error("there is a sender of a state that has no copy")
	}
	checkErrno(t, "Set", s.Set(faulty{"a", f}), api.ErrNil)
	f.panics = ""
	s = NewSender(faulty{"a", f})
	checkErrno(t, "Set", s.Set(faulty{"b", f}), api.OK)
	f.panics = "Copy"
	checkErrno(t, "Set", s.Set(faulty{"c", f}), api.ErrNil)
	for _, method := range []string{"Same", "Diff"} {
		f.panics = method
		checkSilent(t, s, 10, 0, 0, api.ErrNil)
		checkTold(t, s, 0, 0, 1)
	}
	f.panics = ""
	checkSends(t, s, 5, 0, 0, instruction(0, 1, "from a to b"))
}

// P23.1, P23.2: states of which there may be none, and pointers to nothing.
func TestSenderOfNone(t *testing.T) {
	if s := NewSender[open](nil); s != nil {
		t.Error("there is a sender of a state that is not there")
	}
	s := NewSender[open](shut{})
	checkErrno(t, "Set", s.Set(nil), api.ErrNil)
	checkSends(t, s, 0, 0, 0, instruction(0, 0, ""))
	if p := NewSender[*page](nil); p != nil {
		t.Error("there is a sender of a page that is not there")
	}
	p := NewSender(&page{"a"})
	checkErrno(t, "Set", p.Set(nil), api.ErrNil)
	checkErrno(t, "Set", p.Set(&page{"ab"}), api.OK)
	checkSends(t, p, 0, 0, 0, instruction(0, 1, "b"))
}

// P23.3: Told behind each call.
func TestTold(t *testing.T) {
	s := NewSender(text("a"))
	checkTold(t, s, 0, 0, 1)
	checkErrno(t, "Set", s.Set("ab"), api.OK)
	checkTold(t, s, 0, 0, 1)
	checkSends(t, s, 0, 0, 100, instruction(0, 1, "b"))
	checkTold(t, s, 0, 1, 2)
	checkSends(t, s, 100, 0, 100, instruction(0, 1, "b"))
	checkTold(t, s, 0, 1, 2)
	checkErrno(t, "Set", s.Set("abc"), api.OK)
	checkSends(t, s, 100, 0, 100, instruction(0, 2, "bc"))
	checkTold(t, s, 0, 2, 3)
	checkErrno(t, "Ack", s.Ack(1), api.OK)
	checkTold(t, s, 1, 2, 2)
	checkErrno(t, "Ack", s.Ack(0), api.ErrFar)
	checkTold(t, s, 1, 2, 2)
	checkErrno(t, "Ack", s.Ack(2), api.OK)
	checkTold(t, s, 2, 2, 1)
	checkSends(t, s, 3100, 0, 100, instruction(2, 2, ""))
	checkTold(t, s, 2, 2, 1)
}
