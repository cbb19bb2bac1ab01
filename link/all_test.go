package link

import (
	"math"
	"slices"
	"testing"

	"wayfarer/api"
)

// someInstruction is one of few bytes, or of several parts.
func someInstruction(n *noise) api.Instruction {
	number := func() uint64 { return pick(n, []uint64{0, 1, 127, 128, n.next(), math.MaxUint64}) }
	x := api.Instruction{Old: number(), New: number(), Ack: number(), Throw: number()}
	switch n.below(8) {
	case 0:
	case 1, 2:
		x.Diff = n.wild(n.below(4000))
	case 3:
		x.Diff = make([]byte, pick(n, []int{1000, 65000, api.MaxBytes - 60, api.MaxBytes, api.MaxBytes + 1}))
	default:
		x.Diff = n.wild(n.below(40))
	}
	return x
}

// P24.4: what one side sends the other one takes, the same, once, if all its datagrams come in order, some of them more than once.
func TestAllInOrder(t *testing.T) {
	n := noise(2420)
	for range 30 {
		next := pick(&n, []uint64{0, n.next(), api.MaxSeq - 40})
		ends := [2]*Link{linkOf(t, api.Client, next), linkOf(t, api.Server, 0)}
		for now := uint64(0); now < 20; now++ {
			from := n.below(2)
			x := someInstruction(&n)
			row, e := ends[from].Send(x, now)
			if e != api.OK {
				continue
			}
			var passed [][]byte
			for i, b := range row {
				if i < len(row)-1 {
					checkNone(t, ends[1-from], b, now+30, api.OK)
				} else {
					checkTake(t, ends[1-from], b, now+30, x)
				}
				passed = append(passed, b)
				for range n.below(3) {
					checkNone(t, ends[1-from], pick(&n, passed), now+30, api.ErrOld)
				}
			}
		}
	}
}

// forged is bytes that nobody sealed, mostly close to some that somebody did.
func forged(n *noise, b []byte) []byte {
	b = slices.Clone(b)
	switch n.below(5) {
	case 0:
		return n.wild(n.below(80))
	case 1:
		return b[:n.below(len(b))]
	case 2:
		return append(b, byte(n.next()))
	case 3:
		return make([]byte, 28+n.below(2000))
	}
	b[n.below(len(b))] ^= 1 << n.below(8)
	return b
}

// P24.4: bytes that nobody sealed change nothing but Counts: two links, of which one gets such bytes too, do the same.
func TestAllForged(t *testing.T) {
	n := noise(2421)
	for range 20 {
		sender := linkOf(t, api.Client, 0)
		calm, plagued := linkOf(t, api.Server, 0), linkOf(t, api.Server, 0)
		count := 0
		for now := uint64(0); now < 2000; now += uint64(n.below(200)) {
			row, e := sender.Send(someInstruction(&n), now)
			if e != api.OK {
				continue
			}
			for _, b := range row {
				for range n.below(4) {
					checkForged(t, plagued, forged(&n, b), n.next())
					count++
				}
				x, done, e := calm.Take(b, now+5)
				y, same2, f := plagued.Take(b, now+5)
				if !same(x, y) || done != same2 || e != f {
					t.Fatalf("Take = %v, %t, %d, but %v, %t, %d behind forged bytes", x, done, e, y, same2, f)
				}
			}
			checkAlike(t, calm, plagued, now+uint64(n.below(1200)), count)
			checkTake(t, sender, one(t, calm, api.Instruction{}, now+6), now+7, api.Instruction{})
			one(t, plagued, api.Instruction{}, now+6)
		}
	}
}

func checkForged(t *testing.T, l *Link, b []byte, now uint64) {
	t.Helper()
	x, done, e := l.Take(b, now)
	if e != api.ErrShort && e != api.ErrSide && e != api.ErrForm && e != api.ErrTag || done || !same(x, api.Instruction{}) {
		t.Errorf("Take of %d forged bytes = %v, %t, %d", len(b), x, done, e)
	}
}

// checkAlike holds two links to the same estimate, times and counts, but for those of forged bytes.
func checkAlike(t *testing.T, calm, plagued *Link, now uint64, forged int) {
	t.Helper()
	if calm.Rtt() != plagued.Rtt() {
		t.Errorf("Rtt = %v, but %v behind forged bytes", calm.Rtt(), plagued.Rtt())
	}
	b := one(t, calm, api.Instruction{}, now)
	if !slices.Equal(b, one(t, plagued, api.Instruction{}, now)) {
		t.Error("Send makes something else behind forged bytes")
	}
	sent, taken, old, bad := calm.Counts()
	checkCounts(t, plagued, sent, taken, old, bad+forged)
}

// some is a clock: mostly not far from another one, and seldom below it.
func some(n *noise, now uint64) uint64 {
	switch n.below(25) {
	case 0:
		return now - uint64(n.below(3))
	case 1:
		return now + pick(n, []uint64{999, 1000, 1001, 4999, 5000, 65535, 65536, 1 << 32})
	case 2:
		return n.next() << n.below(33)
	}
	return now + uint64(n.below(60))
}

// handmade is a datagram of a side that no link made: what the other side may seal, whatever it is.
func handmade(t *testing.T, n *noise, from api.Side, seq uint64, now uint64) []byte {
	t.Helper()
	stream := smaller(t, formed(t, api.Instruction{New: seq, Diff: n.wild(n.below(6))}))
	switch n.below(8) {
	case 0:
		stream = n.wild(n.below(8))
	case 1:
		stream = append(stream, 0)
	case 2:
		stream = smaller(t, n.wild(n.below(8)))
	}
	b := append([]byte{byte(n.below(40)), byte(n.below(6))}, stream...)
	if n.below(8) == 0 {
		b = n.wild(n.below(6))
	}
	echo := uint16(now) - pick(n, []uint16{0, 1, 70, 4999, 5000, uint16(n.next())})
	return sealing(t, from, api.Datagram{Seq: seq, Sent: uint16(n.next()), Echo: echo, Bytes: b})
}

// checkChance has two links send over a way that loses, doubles, turns about and forges, each beside a slow one.
func checkChance(t *testing.T, n *noise) {
	t.Helper()
	next := pick(n, []uint64{0, 1 << 40, api.MaxSeq - 8, api.MaxSeq})
	ends := [2]*twins{newTwins(t, key(), api.Client, next), newTwins(t, key(), api.Server, 0)}
	var way [2][][]byte // what goes to each of them, and what is kept of it
	now := pick(n, []uint64{0, 65000, 1 << 32, math.MaxUint64 - 3000})
	for range 60 {
		now = some(n, now)
		at := n.below(2)
		switch to := ends[at]; n.below(7) {
		case 0, 1:
			way[1-at] = append(way[1-at], to.send(someInstruction(n), now)...)
		case 2:
			// One of the numbers that are to come, so that most of the others still count.
			seq := ends[1-at].slow.first
			if taken := to.slow.came; len(taken) > 0 {
				seq = taken[len(taken)-1].seq + 1
			}
			to.take(handmade(t, n, to.slow.other(), min(seq, api.MaxSeq-1), now), now)
		default:
			for range 1 + n.below(4) {
				way[at] = deliver(n, to, way[at], now)
			}
		}
	}
}

// deliver brings one of the datagrams of a way, mostly the first one, and answers those that are left.
func deliver(n *noise, to *twins, way [][]byte, now uint64) [][]byte {
	if len(way) == 0 {
		return way
	}
	at := 0
	if n.below(6) == 0 {
		at = n.below(min(len(way), 4))
	}
	switch n.below(10) {
	case 0: // lost
	case 1: // doubled
		to.take(way[at], now)
		return way
	case 2:
		to.take(forged(n, way[at]), now)
		return way
	default:
		to.take(way[at], now)
	}
	return slices.Delete(way, at, at+1)
}

// P24.1, P24.2, P24.3, P24.4: a link does what the chapter's words say, whatever comes.
func TestAllChance(t *testing.T) {
	n := noise(2422)
	for range 120 {
		checkChance(t, &n)
	}
}
