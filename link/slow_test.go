package link

import (
	"bytes"
	"compress/flate"
	"encoding/binary"
	"io"
	"math/big"
	"slices"
	"testing"

	"wayfarer/api"
	"wayfarer/deflate"
	"wayfarer/inflate"
	"wayfarer/seal"
	"wayfarer/wire"
)

// The document's words, read slowly: a link that keeps all that was ever taken and reads it all again, and the library's own reader of streams.

// slowDatagram is a datagram that was taken, with when, and its part, if it has one.
type slowDatagram struct {
	seq  uint64
	sent uint16
	at   uint64
	part *api.Part
}

type slowLink struct {
	key          api.Block
	side         api.Side
	first        uint64 // the number that it began with
	sent         int    // datagrams
	instructions int
	came         []slowDatagram
	samples      []int
	old, bad     int
}

func (l *slowLink) other() api.Side {
	return map[api.Side]api.Side{api.Client: api.Server, api.Server: api.Client}[l.side]
}

// slowForm is the form of an instruction.
func slowForm(x api.Instruction) (b []byte) {
	for _, n := range []uint64{x.Old, x.New, x.Ack, x.Throw, uint64(len(x.Diff))} {
		b = binary.AppendUvarint(b, n)
	}
	return append(b, x.Diff...)
}

// slowEcho is what is told of the last datagram that was taken, reckoned with numbers without an end.
func (l *slowLink) slowEcho(now uint64) uint16 {
	if len(l.came) == 0 {
		return 65535
	}
	last := l.came[len(l.came)-1]
	ago := new(big.Int).Sub(new(big.Int).SetUint64(now), new(big.Int).SetUint64(last.at))
	if ago.Sign() < 0 || ago.Cmp(big.NewInt(1000)) > 0 {
		return 65535
	}
	return uint16((int64(last.sent) + ago.Int64()) % 65536)
}

func (l *slowLink) send(x api.Instruction, now uint64) (row [][]byte, e api.Errno) {
	form := slowForm(x)
	if len(x.Diff) > 65536 || len(form) > 65536 {
		return nil, api.ErrArg
	}
	stream, e := deflate.Deflate(form)
	if e != api.OK {
		panic(e)
	}
	pieces := slices.Collect(slices.Chunk(stream, 1000))
	if left := uint64(1<<62) - l.first - uint64(l.sent); uint64(len(pieces)) > left {
		return nil, api.ErrStop
	}
	for n, piece := range pieces {
		number := uint64(2 * n)
		if n == len(pieces)-1 {
			number++
		}
		b := binary.AppendUvarint(nil, uint64(l.instructions))
		b = append(binary.AppendUvarint(b, number), piece...)
		d := api.Datagram{Seq: l.first + uint64(l.sent), Sent: uint16(now % 65536), Echo: l.slowEcho(now), Bytes: b}
		datagram, e := seal.Bytes(l.key, l.side, d)
		if e != api.OK {
			panic(e)
		}
		row = append(row, datagram)
		l.sent++
	}
	l.instructions++
	return row, api.OK
}

// take is what Take answers.
func (l *slowLink) take(b []byte, now uint64) (none api.Instruction, done bool, e api.Errno) {
	d, e := seal.Datagram(l.key, l.other(), b)
	if e != api.OK {
		l.bad++
		return none, false, e
	}
	if slices.ContainsFunc(l.came, func(c slowDatagram) bool { return c.seq >= d.Seq }) {
		l.old++
		return none, false, api.ErrOld
	}
	if ms := (int(now%65536) - int(d.Echo) + 65536) % 65536; d.Echo != 65535 && ms < 5000 {
		l.samples = append(l.samples, ms)
	}
	before, _ := l.joined()
	l.came = append(l.came, slowDatagram{seq: d.Seq, sent: d.Sent, at: now})
	p, e := slowPart(d.Bytes)
	if e != api.OK {
		return none, false, e
	}
	l.came[len(l.came)-1].part = &p
	after, stream := l.joined()
	if after == before {
		return none, false, api.OK
	}
	return slowInstruction(stream)
}

// slowPart is the part that bytes are.
func slowPart(b []byte) (p api.Part, e api.Errno) {
	id, size, e := wire.ReadUint(b)
	if e != api.OK {
		return p, e
	}
	number, more, e := wire.ReadUint(b[size:])
	if e != api.OK {
		return p, e
	}
	b = b[size+more:]
	last := number%2 == 1
	if number/2 > 255 || len(b) > 1024 || !last && len(b) == 0 {
		return p, api.ErrForm
	}
	return api.Part{Id: id, N: int(number / 2), Last: last, Bytes: b}, api.OK
}

// joined is how many instructions came to their end of all that came, and the stream of the last one of them.
func (l *slowLink) joined() (count int, stream []byte) {
	var at uint64
	parts, ended := map[int]*api.Part{}, false
	for _, c := range l.came {
		p := c.part
		if p == nil || p.Id < at {
			continue
		}
		if p.Id > at {
			at, parts, ended = p.Id, map[int]*api.Part{}, false
		}
		if _, has := parts[p.N]; has || ended {
			continue
		}
		parts[p.N] = p
		var whole []byte
		for n := 0; parts[n] != nil; n++ {
			whole = append(whole, parts[n].Bytes...)
			if parts[n].Last {
				count, stream, ended = count+1, whole, true
				break
			}
		}
	}
	return count, stream
}

// slowInstruction is the instruction of a stream: where that tells one, held against the library's reader.
func slowInstruction(stream []byte) (none api.Instruction, done bool, e api.Errno) {
	form, used, e := inflate.Inflate(stream, 65536)
	if e != api.OK {
		return none, false, e
	}
	in := bytes.NewReader(stream)
	out, err := io.ReadAll(flate.NewReader(in))
	if err != nil || !bytes.Equal(out, form) || in.Len() != len(stream)-used {
		panic("the library reads something else")
	}
	if in.Len() != 0 {
		return none, false, api.ErrForm
	}
	x, e := wire.Read(form)
	if e != api.OK {
		return none, false, e
	}
	if !bytes.Equal(slowForm(x), form) {
		panic("what was read is of another form")
	}
	return x, true, api.OK
}

// slowRtt is the estimate of samples.
func slowRtt(samples []int) (r api.Rtt) {
	for i, ms := range samples {
		if i == 0 {
			r = api.Rtt{Any: true, Mean: 8 * ms, Spread: 2 * ms}
			continue
		}
		d := ms - r.Mean/8
		r.Mean += d
		r.Spread += max(d, -d) - r.Spread/4
	}
	return r
}

// twins is a link and a slow one, which are to do alike.
type twins struct {
	*testing.T
	fast *Link
	slow *slowLink
}

func newTwins(t *testing.T, key api.Block, side api.Side, next uint64) *twins {
	t.Helper()
	l, e := New(key, side, next)
	if e != api.OK {
		t.Fatalf("New(%d, %d) = %d", side, next, e)
	}
	return &twins{t, l, &slowLink{key: key, side: side, first: next}}
}

// send has both send, and holds the one to the other.
func (w *twins) send(x api.Instruction, now uint64) [][]byte {
	w.Helper()
	row, e := w.fast.Send(x, now)
	want, wantE := w.slow.send(x, now)
	if e != wantE || !slices.EqualFunc(row, want, bytes.Equal) {
		w.Fatalf("Send(%d bytes, %d) = %d datagrams, %d, want %d, %d", len(x.Diff), now, len(row), e, len(want), wantE)
	}
	w.check()
	return row
}

// take has both take, and holds the one to the other.
func (w *twins) take(b []byte, now uint64) (x api.Instruction, done bool, e api.Errno) {
	w.Helper()
	x, done, e = w.fast.Take(b, now)
	want, wantDone, wantE := w.slow.take(b, now)
	if !same(x, want) || done != wantDone || e != wantE {
		w.Fatalf("Take(%d bytes, %d) = %v, %t, %d, want %v, %t, %d", len(b), now, x, done, e, want, wantDone, wantE)
	}
	w.check()
	return x, done, e
}

// check holds what both tell.
func (w *twins) check() {
	w.Helper()
	checkCounts(w.T, w.fast, w.slow.first+uint64(w.slow.sent), len(w.slow.came), w.slow.old, w.slow.bad)
	checkRtt(w.T, w.fast, w.slow.samples...)
}
