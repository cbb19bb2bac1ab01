package ssp

import (
	"math"
	"slices"
	"strconv"
	"testing"

	"wayfarer/api"
)

// someWait is a pace or a timeout: mostly a short one.
func someWait(n *noise) int {
	switch n.below(12) {
	case 0:
		return pick(n, []int{math.MaxInt, math.MaxInt - 1, 3000, 2999, 3001, 1 << 32})
	case 1:
		return pick(n, []int{-1, math.MinInt})
	case 2, 3, 4:
		return 0
	}
	return n.below(40)
}

// later is a clock that is mostly not far from another one, and seldom below it.
func later(n *noise, now uint64) uint64 {
	switch n.below(25) {
	case 0:
		return now - uint64(n.below(3))
	case 1:
		return now + pick(n, []uint64{2999, 3000, 3001, 1 << 31})
	case 2:
		return now + min(n.next(), math.MaxUint64-now)
	}
	return now + uint64(n.below(30))
}

// checkSenderChance has a sender do what chance says, beside the slow one.
func checkSenderChance[S State[S]](t *testing.T, n *noise, first S, next func() S) {
	t.Helper()
	p := newPair(t, first)
	now := pick(n, []uint64{0, 1, 1000, 1 << 32, 1 << 63, math.MaxUint64 - 400})
	for range 150 {
		switch acked, last, _ := p.fast.Told(); n.below(8) {
		case 0, 1, 2:
			p.set(next())
		case 3:
			p.ack(pick(n, []uint64{acked, acked + 1, last, last + 1, acked - 1, acked + uint64(n.below(33)), n.next()}))
		default:
			clock := later(n, now)
			if _, _, e := p.tick(clock, someWait(n), someWait(n)); e == api.OK {
				now = clock
			}
		}
	}
}

// P23.1, P23.2, P23.3: the sender does what the chapter's words say, whatever it is handed.
func TestSenderChance(t *testing.T) {
	n := noise(2301)
	for range 400 {
		checkSenderChance(t, &n, word("a"), func() word { return pick(&n, []word{"a", "b", "c", "d"}) })
		grown := text("")
		checkSenderChance(t, &n, grown, func() text {
			if n.below(5) == 0 {
				return pick(&n, []text{"", "x", grown}) // no difference may lead there
			}
			grown += text(rune('a' + n.below(26)))
			return grown
		})
		f := &faults{}
		checkSenderChance(t, &n, faulty{"a", f}, func() faulty {
			f.diff = pick(&n, []api.Errno{0, 0, errDiff, api.ErrArg})
			return faulty{strconv.Itoa(n.below(5)), f}
		})
	}
}

// P23.2: full rows, and clocks that stand still, likewise.
func TestSenderChanceFull(t *testing.T) {
	n := noise(2302)
	for range 100 {
		p := newPair(t, word("0"))
		now := uint64(0)
		for i := range 200 {
			p.set(word(strconv.Itoa(i % 150)))
			now += uint64(n.below(2))
			p.tick(now, n.below(2), n.below(4))
			if acked, last, _ := p.fast.Told(); n.below(20) == 0 {
				p.ack(acked + n.next()%(last-acked+2))
			}
		}
	}
}

// someNumber is a number that is mostly among or beside those that a receiver has.
func someNumber(n *noise, held []uint64) uint64 {
	switch n.below(10) {
	case 0:
		return pick(n, []uint64{0, 1, 1 << 63, math.MaxUint64, math.MaxUint64 - 1})
	case 1, 2, 3:
		return uint64(n.below(60))
	case 4, 5:
		return pick(n, held) + 1
	case 6:
		return pick(n, held) - 1
	}
	return pick(n, held)
}

// P23.4: the receiver does what the chapter's words say, whatever it is handed.
func TestReceiverChance(t *testing.T) {
	n := noise(2303)
	news, seen := 0, map[api.Errno]int{}
	for range 1500 {
		p := newTakers(t, text("a"))
		low := n.below(2) == 0 // so that there are many
		for range 120 {
			held := p.fast.Holds()
			x := thrown(pick(&n, held), someNumber(&n, held), someNumber(&n, held), pick(&n, []string{"", "b", "cd", "bad"}))
			if n.below(6) == 0 {
				x.Old = someNumber(&n, held)
			}
			if low {
				x.Old, x.Throw = held[n.below(min(3, len(held)))], min(x.Throw, uint64(n.below(3)))
			}
			x.Ack = n.next() // nothing hangs on it
			first, e := p.take(x)
			if first {
				news++
			}
			seen[e]++
		}
	}
	for _, e := range []api.Errno{api.OK, api.ErrFar, api.ErrFull, errApply} {
		if seen[e] < 100 || news < 100 {
			t.Errorf("there were %d news, and %d answers of the error %d", news, seen[e], e)
		}
	}
}

// way is a sender and a receiver, and what is on its way between them.
type way[S State[S]] struct {
	pair[S]
	takers[S]
	n      *noise
	had    map[uint64]S // what the sender had by each number
	told   []api.Instruction
	acks   []uint64
	latest uint64
	now    uint64
	heart  uint64 // when one is due
}

func newWay[S State[S]](t *testing.T, n *noise, first S) *way[S] {
	return &way[S]{pair: newPair(t, first), takers: newTakers(t, first), n: n, had: map[uint64]S{0: first.Copy()}}
}

// ticks has the sender send, and answers what it did.
func (w *way[S]) ticks(pace, timeout int) (api.Instruction, bool) {
	x, send, e := w.pair.tick(w.now, pace, timeout)
	if e != api.OK {
		w.pair.t.Fatalf("Tick(%d) answers %d", w.now, e)
	}
	if _, has := w.had[x.New]; send && !has {
		w.had[x.New] = w.pair.slow.now.Copy()
	}
	if send {
		w.heart = w.now + 3000
	}
	return x, send
}

// arrives hands the receiver an instruction, and holds its latest state to the ones that the sender had.
func (w *way[S]) arrives(x api.Instruction) {
	before := w.takers.fast.Holds()
	news, e := w.takers.take(x)
	n, latest := w.takers.fast.Latest()
	had, has := w.had[n]
	if !has || !had.Same(latest) {
		w.pair.t.Fatalf("the receiver has the state %d, %v; the sender had %v", n, latest, had)
	}
	if n < w.latest || news != (n > w.latest) {
		w.pair.t.Fatalf("news %t behind the state %d: %d", news, w.latest, n)
	}
	if e != api.OK && !slices.Equal(w.takers.fast.Holds(), before) {
		w.pair.t.Fatalf("what was refused changed the numbers %d to %d", before, w.takers.fast.Holds())
	}
	w.latest = n
	w.acks = append(w.acks, n)
}

// bad lets one thing arrive, or none; what arrived may come again, at whatever time.
func (w *way[S]) bad() {
	if len(w.told) > 0 && w.n.below(3) > 0 {
		w.arrives(pick(w.n, w.told[max(0, len(w.told)-pick(w.n, []int{1, 5, 40, 1000})):]))
	}
	if len(w.acks) > 0 && w.n.below(4) > 0 {
		w.pair.ack(pick(w.n, w.acks[max(0, len(w.acks)-pick(w.n, []int{1, 3, 60})):]))
	}
}

// good lets all arrive until the receiver has the state of the sender, and answers how many instructions that took.
func (w *way[S]) good(pace, timeout int) int {
	for count := 0; ; {
		n, x := w.takers.fast.Latest()
		acked, last, waits := w.pair.fast.Told()
		if n == last && acked == n && waits == 1 && w.pair.slow.now.Same(x) {
			return count
		}
		if count++; count > 100 {
			w.pair.t.Fatalf("the receiver has the state %d, %v; the sender has %d to %d, and %v", n, x, acked, last, w.pair.slow.now)
		}
		w.now += uint64(max(pace, timeout))
		if x, send := w.ticks(pace, timeout); send {
			w.arrives(x)
			w.pair.ack(w.latest)
		}
	}
}

// checkHearts holds a sender whose state the receiver has to sending hearts alone.
func (w *way[S]) checkHearts() {
	n := w.latest
	for range 200 {
		w.now += 100
		heart := w.now >= w.heart
		x, send := w.ticks(0, 0)
		if send != heart || send && !sameInstruction(x, instruction(n, n, "")) {
			w.pair.t.Fatalf("where a heart is due: %t, the sender told %v, %t", heart, x, send)
		}
		if send {
			w.arrives(x)
			w.pair.ack(w.latest)
		}
	}
}

// checkWay has a way lose, double and turn about, then let all through, some times.
func checkWay[S State[S]](t *testing.T, n *noise, first S, next func() S) {
	t.Helper()
	w := newWay(t, n, first)
	for range 3 {
		pace, timeout, often := n.below(30), 1+n.below(200), 1+n.below(20)
		for range n.below(150) {
			if n.below(4) > 0 {
				w.set(next())
			}
			w.now += uint64(n.below(60))
			if x, send := w.ticks(pace, timeout); send && n.below(4) > 0 {
				w.told = append(w.told, x)
			}
			if n.below(often) == 0 {
				w.bad()
			}
		}
		took := w.good(pace, timeout)
		if took > 4 {
			t.Errorf("it took %d instructions", took)
		}
		w.checkHearts()
	}
}

// P23.5: a way that loses, doubles and turns about, and then lets through all.
func TestAlike(t *testing.T) {
	n := noise(2304)
	for range 60 {
		grown := text("")
		checkWay(t, &n, grown, func() text {
			grown += text(rune('a' + n.below(26)))
			return grown
		})
		checkWay(t, &n, word("a"), func() word { return word(rune('a' + n.below(4))) })
		number := 0
		checkWay(t, &n, word("0"), func() word {
			number++
			return word(strconv.Itoa(number))
		})
		p := piece("")
		checkWay(t, &n, p, func() piece {
			p = append(p, byte(n.next()))
			return p
		})
		book := ""
		checkWay(t, &n, &page{}, func() *page {
			book += string(rune('a' + n.below(26)))
			return &page{book}
		})
	}
}

// P23.5: the example of a text that grows while nothing arrives, then its last instruction alone.
func TestAlikeLastOnly(t *testing.T) {
	s, r := NewSender(text("a")), NewReceiver(text("a"))
	x := text("a")
	var last api.Instruction
	for i := range 60 {
		x += "b"
		checkErrno(t, "Set", s.Set(x), api.OK)
		last, _, _ = s.Tick(uint64(10*i), 10, 1000)
	}
	checkSilent(t, s, 600, 10, 1000, api.OK)
	checkTold(t, s, 0, 31, 32)
	last, send, e := s.Tick(9000, 10, 1000)
	if !send || e != api.OK || last.New != 31 {
		t.Fatalf("Tick = %v, %t, %d", last, send, e)
	}
	checkTake(t, r, last, true, api.OK, x[:32], 0, 31)
	checkErrno(t, "Ack", s.Ack(31), api.OK)
	last, _, _ = s.Tick(9010, 10, 1000)
	checkTake(t, r, last, true, api.OK, x, 31, 32)
	checkErrno(t, "Ack", s.Ack(32), api.OK)
	checkSends(t, s, 12010, 10, 1000, instruction(32, 32, ""))
	checkTake(t, r, instruction(32, 32, ""), false, api.OK, x, 32)
}
