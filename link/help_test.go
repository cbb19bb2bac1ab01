package link

import (
	"bytes"
	"slices"
	"testing"

	"wayfarer/api"
	"wayfarer/deflate"
	"wayfarer/fragment"
	"wayfarer/seal"
	"wayfarer/wire"
)

// noise is numbers that look like chance and are always the same ones.
type noise uint64

func (n *noise) next() uint64 {
	*n = *n*6364136223846793005 + 1442695040888963407
	return uint64(*n >> 32)
}

func (n *noise) below(count int) int {
	return int(n.next() % uint64(count))
}

func pick[T any](n *noise, l []T) T {
	return l[n.below(len(l))]
}

// wild is bytes that can't be made smaller.
func (n *noise) wild(count int) []byte {
	b := make([]byte, count)
	for i := range b {
		b[i] = byte(n.next() >> 8)
	}
	return b
}

// wildOf is such bytes, always the same ones of a number.
func wildOf(count int) []byte {
	n := noise(2400)
	return n.wild(count)
}

// roomy is bytes with room behind their end, which has bytes of its own.
func roomy(b []byte) []byte {
	return append(slices.Clone(b), "eeeee"...)[:len(b)]
}

// spoil turns all bytes of a list about, those in the room behind its end too.
func spoil(b []byte) {
	b = b[:cap(b)]
	for i := range b {
		b[i] ^= 255
	}
}

// key is the one of all these tests, but where another one is asked for.
func key() api.Block { return api.Block{2, 4, 24} }

// linkOf is a link of a side, whose numbers begin with next.
func linkOf(t testing.TB, side api.Side, next uint64) *Link {
	t.Helper()
	l, e := New(key(), side, next)
	if l == nil || e != api.OK {
		t.Fatalf("New(%d, %d) = %v, %d", side, next, l, e)
	}
	return l
}

// linksOf is both ends of a way.
func linksOf(t testing.TB) (client, server *Link) {
	t.Helper()
	return linkOf(t, api.Client, 0), linkOf(t, api.Server, 0)
}

// instruction is one with a difference.
func instruction(n uint64, diff []byte) api.Instruction {
	return api.Instruction{Old: n, New: n + 1, Ack: n + 2, Throw: n / 2, Diff: diff}
}

func same(x, y api.Instruction) bool {
	return x.Old == y.Old && x.New == y.New && x.Ack == y.Ack && x.Throw == y.Throw && bytes.Equal(x.Diff, y.Diff)
}

// sent is the datagrams of an instruction that goes.
func sent(t testing.TB, l *Link, x api.Instruction, now uint64) [][]byte {
	t.Helper()
	row, e := l.Send(x, now)
	if len(row) == 0 || e != api.OK {
		t.Fatalf("Send(%d bytes, %d) = %d datagrams, %d", len(x.Diff), now, len(row), e)
	}
	return row
}

// one is the datagram of an instruction that has one.
func one(t testing.TB, l *Link, x api.Instruction, now uint64) []byte {
	t.Helper()
	row := sent(t, l, x, now)
	if len(row) != 1 {
		t.Fatalf("Send(%d bytes, %d) = %d datagrams", len(x.Diff), now, len(row))
	}
	return row[0]
}

// opening is the datagram of a side that bytes are.
func opening(t testing.TB, from api.Side, b []byte) api.Datagram {
	t.Helper()
	d, e := seal.Datagram(key(), from, b)
	if e != api.OK {
		t.Fatalf("seal.Datagram = %d", e)
	}
	return d
}

// sealing is the bytes of a datagram of a side.
func sealing(t testing.TB, from api.Side, d api.Datagram) []byte {
	t.Helper()
	b, e := seal.Bytes(key(), from, d)
	if e != api.OK {
		t.Fatalf("seal.Bytes = %d", e)
	}
	return b
}

// told is a datagram of the client without an Echo.
func told(t testing.TB, seq uint64, b []byte) []byte {
	t.Helper()
	return sealing(t, api.Client, api.Datagram{Seq: seq, Sent: 7, Echo: 65535, Bytes: b})
}

// part is the form of a part.
func part(t testing.TB, id uint64, n int, last bool, b []byte) []byte {
	t.Helper()
	form, e := fragment.Write(api.Part{Id: id, N: n, Last: last, Bytes: b})
	if e != api.OK {
		t.Fatalf("fragment.Write = %d", e)
	}
	return form
}

// smaller is a stream that tells bytes.
func smaller(t testing.TB, b []byte) []byte {
	t.Helper()
	stream, e := deflate.Deflate(b)
	if e != api.OK {
		t.Fatalf("deflate.Deflate = %d", e)
	}
	return stream
}

// formed is the form of an instruction.
func formed(t testing.TB, x api.Instruction) []byte {
	t.Helper()
	form, e := wire.Write(x)
	if e != api.OK {
		t.Fatalf("wire.Write = %d", e)
	}
	return form
}

// ofStream is an instruction whose stream has so many bytes.
func ofStream(t testing.TB, size int) api.Instruction {
	t.Helper()
	for count := max(size-30, 0); count <= size; count++ {
		x := instruction(3, wildOf(count))
		if len(smaller(t, formed(t, x))) == size {
			return x
		}
	}
	t.Fatalf("no instruction has a stream of %d bytes", size)
	return api.Instruction{}
}

// ofForm is an instruction whose form has so many bytes.
func ofForm(t testing.TB, size int) api.Instruction {
	t.Helper()
	x := instruction(1<<40, make([]byte, size-60))
	x.Diff = append(x.Diff, make([]byte, size-len(formed(t, x)))...)
	if len(formed(t, x)) != size {
		t.Fatalf("an instruction of %d bytes, not %d", len(formed(t, x)), size)
	}
	return x
}

// checkTake holds Take to an instruction that came to its end.
func checkTake(t *testing.T, l *Link, b []byte, now uint64, want api.Instruction) {
	t.Helper()
	if x, done, e := l.Take(b, now); !same(x, want) || !done || e != api.OK {
		t.Errorf("Take(%d) = %v, %t, %d, want %v", now, x, done, e, want)
	}
}

// checkNone holds Take to nothing that is told yet, or to an error.
func checkNone(t *testing.T, l *Link, b []byte, now uint64, want api.Errno) {
	t.Helper()
	if x, done, e := l.Take(b, now); !same(x, api.Instruction{}) || done || e != want {
		t.Errorf("Take(%d) = %v, %t, %d, want nothing, %d", now, x, done, e, want)
	}
}

// checkRefused holds Send to an error, which changes nothing.
func checkRefused(t *testing.T, l *Link, x api.Instruction, now uint64, want api.Errno) {
	t.Helper()
	was, _, _, _ := l.Counts()
	if row, e := l.Send(x, now); len(row) != 0 || e != want {
		t.Errorf("Send(%d bytes, %d) = %d datagrams, %d, want %d", len(x.Diff), now, len(row), e, want)
	}
	if is, _, _, _ := l.Counts(); is != was {
		t.Errorf("behind a Send that was refused the next number is %d, not %d", is, was)
	}
}

func checkCounts(t *testing.T, l *Link, sent uint64, taken, old, bad int) {
	t.Helper()
	if s, k, o, b := l.Counts(); s != sent || k != taken || o != old || b != bad {
		t.Errorf("Counts = %d, %d, %d, %d, want %d, %d, %d, %d", s, k, o, b, sent, taken, old, bad)
	}
}

// checkRtt holds the estimate to that of samples, made by the words of layer 9.
func checkRtt(t *testing.T, l *Link, samples ...int) {
	t.Helper()
	if got, want := l.Rtt(), slowRtt(samples); got != want {
		t.Errorf("Rtt = %v, want %v, of the samples %d", got, want, samples)
	}
}

// checkTimes holds a datagram to its Sent and its Echo.
func checkTimes(t *testing.T, from api.Side, b []byte, sent, echo uint16) {
	t.Helper()
	if d := opening(t, from, b); d.Sent != sent || d.Echo != echo {
		t.Errorf("Sent %d, Echo %d, want %d, %d", d.Sent, d.Echo, sent, echo)
	}
}

// checkPart holds a datagram to its number and to the part that it has.
func checkPart(t *testing.T, from api.Side, b []byte, seq, id uint64, n int, last bool) []byte {
	t.Helper()
	d := opening(t, from, b)
	p, e := fragment.Read(d.Bytes)
	if d.Seq != seq || e != api.OK || p.Id != id || p.N != n || p.Last != last {
		t.Errorf("Seq %d, Id %d, N %d, Last %t, %d, want Seq %d, Id %d, N %d, Last %t", d.Seq, p.Id, p.N, p.Last, e, seq, id, n, last)
	}
	return p.Bytes
}
