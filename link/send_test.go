package link

import (
	"bytes"
	"math"
	"testing"

	"wayfarer/api"
	"wayfarer/fragment"
)

// P24.1, P24.2, P24.3: the chapter's examples.
func TestByHand(t *testing.T) {
	a, b := linksOf(t)
	x, y := instruction(5, wildOf(2500)), instruction(7, []byte("hello"))
	row := sent(t, a, x, 5)
	if len(row) != 3 {
		t.Fatalf("%d datagrams", len(row))
	}
	checkNone(t, b, row[0], 9, api.OK)
	checkNone(t, b, row[1], 9, api.OK)
	checkTake(t, b, row[2], 9, x)
	for _, again := range row {
		checkNone(t, b, again, 10, api.ErrOld)
	}
	checkNone(t, b, make([]byte, 28), 10, api.ErrTag)
	checkNone(t, a, make([]byte, 28), 10, api.ErrSide)
	answer := one(t, b, y, 19)
	checkRtt(t, a)
	checkTake(t, a, answer, 25, y)
	checkRtt(t, a, 10)
	checkRtt(t, b)
	checkCounts(t, a, 3, 1, 0, 1)
	checkCounts(t, b, 1, 3, 3, 1)
}

// P24.1, P24.2, P24.3: each call on a link that is not there, and on one that no call made.
func TestNotThere(t *testing.T) {
	for _, l := range []*Link{nil, {}, new(Link)} {
		for _, x := range []api.Instruction{{}, instruction(1, []byte("x")), {Diff: make([]byte, api.MaxBytes+1)}} {
			checkRefused(t, l, x, 5, api.ErrNil)
		}
		for _, b := range [][]byte{nil, make([]byte, 28), one(t, linkOf(t, api.Client, 0), api.Instruction{}, 5)} {
			checkNone(t, l, b, 5, api.ErrNil)
		}
		checkRtt(t, l)
		checkCounts(t, l, 0, 0, 0, 0)
	}
}

// P24.1: each side, and numbers at their bounds.
func TestNew(t *testing.T) {
	for side := range 256 {
		for _, next := range []uint64{0, 1, 77, api.MaxSeq - 1, api.MaxSeq, api.MaxSeq + 1, 1 << 63, 1<<63 + 5, math.MaxUint64} {
			l, e := New(key(), api.Side(side), next)
			if side != int(api.Client) && side != int(api.Server) || next > api.MaxSeq {
				if l != nil || e != api.ErrArg {
					t.Errorf("New(%d, %d) = %v, %d", side, next, l, e)
				}
				continue
			}
			if l == nil || e != api.OK {
				t.Errorf("New(%d, %d) = %v, %d", side, next, l, e)
				continue
			}
			checkCounts(t, l, next, 0, 0, 0)
			checkRtt(t, l)
		}
	}
}

// P24.1: a new link's first datagram is one of its side, of the number next, sealed with the key; it takes those of the other side.
func TestNewBegins(t *testing.T) {
	x := instruction(1, []byte("x"))
	for _, next := range []uint64{0, 1, 1 << 40, api.MaxSeq - 1} {
		client, server := linkOf(t, api.Client, next), linkOf(t, api.Server, next)
		fromClient, fromServer := one(t, client, x, 5), one(t, server, x, 5)
		checkPart(t, api.Client, fromClient, next, 0, 0, true)
		checkPart(t, api.Server, fromServer, next, 0, 0, true)
		checkNone(t, client, fromClient, 5, api.ErrSide)
		checkNone(t, server, fromServer, 5, api.ErrSide)
		stranger, _ := New(api.Block{}, api.Server, next)
		checkNone(t, stranger, fromClient, 5, api.ErrTag)
		checkTake(t, client, fromServer, 5, x)
		checkTake(t, server, fromClient, 5, x)
	}
}

// P24.1: what may not be is refused, also where no number is left, and uses none up.
func TestSendMayNot(t *testing.T) {
	for _, l := range []*Link{linkOf(t, api.Client, 0), linkOf(t, api.Server, 5), linkOf(t, api.Client, api.MaxSeq)} {
		checkRefused(t, l, api.Instruction{Diff: make([]byte, api.MaxBytes+1)}, 0, api.ErrArg)
		checkRefused(t, l, api.Instruction{Diff: make([]byte, 1<<20)}, 0, api.ErrArg)
		checkRefused(t, l, api.Instruction{Diff: make([]byte, api.MaxBytes)}, 0, api.ErrArg) // it may be, but its form is longer
		checkRefused(t, l, ofForm(t, api.MaxBytes+1), 0, api.ErrArg)
		checkRefused(t, l, api.Instruction{Old: math.MaxUint64, New: math.MaxUint64, Ack: math.MaxUint64, Throw: math.MaxUint64, Diff: make([]byte, api.MaxBytes-42)}, 0, api.ErrArg)
	}
}

// P24.1: of a form of MaxBytes bytes are datagrams made, of one byte more are none; neither the number of a datagram nor that of an instruction is used up then.
func TestSendLongest(t *testing.T) {
	c, s := linksOf(t)
	checkRefused(t, c, ofForm(t, api.MaxBytes+1), 0, api.ErrArg)
	x := ofForm(t, api.MaxBytes)
	b := one(t, c, x, 0)
	checkPart(t, api.Client, b, 0, 0, 0, true)
	checkTake(t, s, b, 0, x)
	checkRefused(t, c, ofForm(t, api.MaxBytes+1), 0, api.ErrArg)
	// One that can't be made smaller.
	x.Diff = wildOf(len(x.Diff))
	row := sent(t, c, x, 0)
	if len(row) != 66 {
		t.Errorf("%d datagrams", len(row))
	}
	for n, b := range row {
		checkPart(t, api.Client, b, uint64(n+1), 1, n, n == 65)
		if n < 65 {
			checkNone(t, s, b, 0, api.OK)
		}
	}
	checkTake(t, s, row[65], 0, x)
	checkCounts(t, c, 67, 0, 0, 0)
	checkCounts(t, s, 0, 67, 0, 0)
}

// P24.1: 1000 bytes of the stream each, and what is left, of the number of the instruction.
func TestSendParts(t *testing.T) {
	c, s := linksOf(t)
	seq := uint64(0)
	for id, size := range []int{20, 999, 1000, 1001, 1999, 2000, 2001, 3000, 65001} {
		x := ofStream(t, size)
		stream := smaller(t, formed(t, x))
		row := sent(t, c, x, 3)
		if want := (size + 999) / 1000; len(row) != want {
			t.Errorf("%d datagrams of a stream of %d bytes, want %d", len(row), size, want)
		}
		for n, b := range row {
			last := n == len(row)-1
			got := checkPart(t, api.Client, b, seq, uint64(id), n, last)
			want := stream[:min(1000, len(stream))]
			stream = stream[len(want):]
			if !bytes.Equal(got, want) {
				t.Errorf("the part %d of a stream of %d bytes is another one", n, size)
			}
			if last {
				checkTake(t, s, b, 3, x)
			} else {
				checkNone(t, s, b, 3, api.OK)
			}
			seq++
		}
	}
}

// P24.1: an instruction of which fewer numbers are left than it has parts is refused, and none is used; a smaller one still goes.
func TestSendStop(t *testing.T) {
	three := ofStream(t, 2001)
	for left := range uint64(6) {
		for side := api.Client; side <= api.Server; side++ {
			l := linkOf(t, side, api.MaxSeq-left)
			seq := api.MaxSeq - left
			if left < 3 {
				checkRefused(t, l, three, 5, api.ErrStop)
			} else {
				row := sent(t, l, three, 5)
				for n, b := range row {
					checkPart(t, side, b, seq, 0, n, n == 2)
					seq++
				}
			}
			id := left / 3
			for seq < api.MaxSeq {
				checkRefused(t, l, three, 5, api.ErrStop)
				checkPart(t, side, one(t, l, api.Instruction{}, 5), seq, id, 0, true)
				seq, id = seq+1, id+1
			}
			checkRefused(t, l, three, 5, api.ErrStop)
			checkRefused(t, l, api.Instruction{}, 5, api.ErrStop)
			checkCounts(t, l, api.MaxSeq, 0, 0, 0)
		}
	}
}

// P24.1: a link that can send no more still takes.
func TestStopTakes(t *testing.T) {
	c, s := linkOf(t, api.Client, api.MaxSeq), linkOf(t, api.Server, api.MaxSeq-1)
	x := instruction(5, []byte("the last one"))
	checkTake(t, c, one(t, s, x, 5), 6, x)
	checkRefused(t, s, x, 5, api.ErrStop)
	checkRefused(t, c, x, 5, api.ErrStop)
	checkCounts(t, c, api.MaxSeq, 1, 0, 0)
}

// P24.1: Sent is the clock, which comes round; all parts of an instruction have the same one, and the same Echo.
func TestSent(t *testing.T) {
	long := ofStream(t, 3000)
	for _, c := range []struct {
		now  uint64
		want uint16
	}{{0, 0}, {1, 1}, {65534, 65534}, {65535, 65535}, {65536, 0}, {65537, 1}, {1<<32 + 9, 9}, {1 << 63, 0}, {math.MaxUint64, 65535}} {
		l := linkOf(t, api.Client, 0)
		for _, b := range sent(t, l, long, c.now) {
			checkTimes(t, api.Client, b, c.want, 65535)
		}
	}
}

// P24.1: what Echo says 0, 1, 1000 and 1001 milliseconds behind a datagram; where that comes to 65535 or comes round; and of a clock that was turned back.
func TestEcho(t *testing.T) {
	long := ofStream(t, 1500)
	for _, c := range []struct {
		sent      uint16
		came, now uint64
		want      uint16
	}{
		{5, 9, 9, 5}, {5, 9, 10, 6}, {5, 9, 1008, 1004}, {5, 9, 1009, 1005}, {5, 9, 1010, 65535}, {5, 9, 1011, 65535},
		{5, 9, 8, 65535}, {5, 9, 0, 65535}, {5, 9, 9 + 65536, 65535}, {5, 9, 9 + 1<<32, 65535}, {5, 9, math.MaxUint64, 65535},
		{0, 0, 0, 0}, {0, 0, 1000, 1000}, {0, 0, 1001, 65535}, {0, 0, math.MaxUint64, 65535}, {0, 0, math.MaxUint64 - 500, 65535},
		{65535, 7, 7, 65535}, {65535, 7, 8, 0}, {65535, 7, 1007, 999}, {65535, 7, 1008, 65535},
		{65530, 7, 11, 65534}, {65530, 7, 12, 65535}, {65530, 7, 13, 0}, {65530, 7, 14, 1},
		{64535, 7, 1006, 65534}, {64535, 7, 1007, 65535}, {64536, 7, 1007, 0},
		{3, math.MaxUint64, math.MaxUint64, 3}, {3, math.MaxUint64, math.MaxUint64 - 1, 65535}, {3, math.MaxUint64, 0, 65535}, {3, math.MaxUint64, 499, 65535},
		{3, math.MaxUint64 - 1000, math.MaxUint64, 1003}, {3, math.MaxUint64 - 1001, math.MaxUint64, 65535}, {3, 1 << 63, 1<<63 - 1, 65535},
	} {
		c1, s := linksOf(t)
		checkTimes(t, api.Server, one(t, s, api.Instruction{}, c.now), uint16(c.now), 65535) // none was taken yet
		checkTake(t, s, one(t, c1, api.Instruction{}, uint64(c.sent)), c.came, api.Instruction{})
		for range 2 {
			for _, b := range sent(t, s, long, c.now) {
				checkTimes(t, api.Server, b, uint16(c.now), c.want)
			}
		}
	}
}

// P24.1: it is the last datagram taken that Echo tells, be its clock the lower one, and not one that was refused.
func TestEchoOfLast(t *testing.T) {
	c, s := linksOf(t)
	for _, x := range []struct{ sent, came uint64 }{{100, 500}, {300, 400}, {50, 450}, {60, 3000}, {70, 10}} {
		checkTake(t, s, one(t, c, api.Instruction{}, x.sent), x.came, api.Instruction{})
		checkTimes(t, api.Server, one(t, s, api.Instruction{}, x.came+20), uint16(x.came)+20, uint16(x.sent)+20)
		checkTimes(t, api.Server, one(t, s, api.Instruction{}, x.came-1), uint16(x.came)-1, 65535)
	}
	checkNone(t, s, told(t, 4, nil), 20, api.ErrOld)
	checkNone(t, s, make([]byte, 28), 20, api.ErrTag)
	checkTimes(t, api.Server, one(t, s, api.Instruction{}, 20), 20, 80)
}

// P24.1: an instruction of a part as long as layer 10 has it is read; Send makes none above 1000.
func TestPartSize(t *testing.T) {
	c := linkOf(t, api.Client, 0)
	for _, b := range sent(t, c, instruction(1, wildOf(5000)), 3) {
		p, e := fragment.Read(opening(t, api.Client, b).Bytes)
		if e != api.OK || !p.Last && len(p.Bytes) != 1000 || len(p.Bytes) > 1000 {
			t.Errorf("a part of %d bytes, %d", len(p.Bytes), e)
		}
	}
	s, x := linkOf(t, api.Server, 0), ofStream(t, 2*api.MaxPart)
	stream := smaller(t, formed(t, x))
	checkNone(t, s, told(t, 3, part(t, 9, 1, true, stream[api.MaxPart:])), 5, api.OK)
	checkTake(t, s, told(t, 4, part(t, 9, 0, false, stream[:api.MaxPart])), 5, x)
}
