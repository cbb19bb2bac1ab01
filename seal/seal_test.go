package seal

import (
	"bytes"
	"crypto/sha256"
	"encoding/hex"
	"math"
	"slices"
	"testing"

	"wayfarer/api"
	"wayfarer/ocb"
)

// exampleKey is 00 01 02 .. 0f.
func exampleKey() api.Block { return api.Block(rising(16)) }

// rising is 00 01 02 .., and from the start again behind ff.
func rising(size int) []byte {
	b := make([]byte, size)
	for i := range b {
		b[i] = byte(i)
	}
	return b
}

// roomy is the bytes with room behind them that has bytes, too.
func roomy(b []byte) []byte {
	return slices.Concat(b, []byte{0x5a, 0xa5, 0x5a, 0xa5})[:len(b)]
}

// spoil turns all bytes about, those in the room behind the end too.
func spoil(b []byte) {
	for i := range b[:cap(b)] {
		b[:cap(b)][i] ^= 255
	}
}

func sameDatagram(x, y api.Datagram) bool {
	return x.Seq == y.Seq && x.Sent == y.Sent && x.Echo == y.Echo && bytes.Equal(x.Bytes, y.Bytes)
}

// sides is both sides.
func sides() []api.Side { return []api.Side{api.Client, api.Server} }

// noSides is some that are neither.
func noSides() []api.Side { return []api.Side{api.NoSide, 3, 4, 128, 129, 130, 255} }

// other is the side that is not this one.
func other(from api.Side) api.Side {
	if from == api.Client {
		return api.Server
	}
	return api.Client
}

// made is a datagram's bytes, where no error may be.
func made(t testing.TB, from api.Side, d api.Datagram) []byte {
	t.Helper()
	b, e := Bytes(exampleKey(), from, d)
	if e != api.OK {
		t.Fatalf("Bytes of the number %d, %d bytes: %v", d.Seq, len(d.Bytes), e)
	}
	return b
}

// numbered is the bytes of a datagram of a number that tells which one it is.
func numbered(t testing.TB, from api.Side, seq uint64) []byte {
	t.Helper()
	return made(t, from, api.Datagram{Seq: seq, Sent: uint16(seq), Echo: 7, Bytes: []byte{'n', byte(seq)}})
}

// checkBytes holds Bytes to an error and to the slow reading, to being opened again, what it was handed to staying as it is, and what it answers to being its own.
func checkBytes(t *testing.T, from api.Side, d api.Datagram, e api.Errno) {
	t.Helper()
	want, slow := slowBytes(exampleKey(), from, d)
	handed := d
	handed.Bytes = roomy(d.Bytes)
	whole := bytes.Clone(handed.Bytes[:cap(handed.Bytes)])
	out, got := Bytes(exampleKey(), from, handed)
	if !bytes.Equal(out, want) || got != e || slow != e {
		t.Fatalf("Bytes(%d, %d, %d, %d, %d bytes) = %.60x, %v, want %.60x, %v (or %v)", from, d.Seq, d.Sent, d.Echo, len(d.Bytes), out, got, want, e, slow)
	}
	if !bytes.Equal(handed.Bytes[:cap(handed.Bytes)], whole) {
		t.Fatal("Bytes changed what it was handed")
	}
	if e != api.OK {
		return
	}
	checkDatagram(t, exampleKey(), from, out, api.OK)
	if back, opened := Datagram(exampleKey(), from, out); !sameDatagram(back, d) || opened != api.OK {
		t.Fatalf("Datagram of Bytes(%d, %d, %d, %d, %d bytes) = %d, %d, %d, %d bytes, %v", from, d.Seq, d.Sent, d.Echo, len(d.Bytes), back.Seq, back.Sent, back.Echo, len(back.Bytes), opened)
	}
	again, _ := Bytes(exampleKey(), from, handed)
	spoil(out)
	if !bytes.Equal(again, want) || !bytes.Equal(handed.Bytes[:cap(handed.Bytes)], whole) {
		t.Fatal("what Bytes answers shares memory with another answer or with what it was handed")
	}
}

// checkDatagram holds Datagram to an error and to the slow reading, what it was handed to staying as it is, and what it answers to being its own.
func checkDatagram(t *testing.T, key api.Block, from api.Side, b []byte, e api.Errno) {
	t.Helper()
	want, slow := slowDatagram(key, from, b)
	handed := roomy(b)
	whole := bytes.Clone(handed[:cap(handed)])
	d, got := Datagram(key, from, handed)
	if !sameDatagram(d, want) || got != e || slow != e {
		t.Fatalf("Datagram(%d, %.60x of %d bytes) = %d, %d, %d, %.40x, %v, want %d, %d, %d, %.40x, %v (or %v)", from, b, len(b), d.Seq, d.Sent, d.Echo, d.Bytes, got, want.Seq, want.Sent, want.Echo, want.Bytes, e, slow)
	}
	again, _ := Datagram(key, from, handed)
	spoil(d.Bytes)
	if !sameDatagram(again, want) {
		t.Fatal("two answers of Datagram share memory")
	}
	if !bytes.Equal(handed[:cap(handed)], whole) {
		t.Fatal("Datagram changed what it was handed, or answers it")
	}
}

// P8.1: the examples of the chapter.
func TestDatagramExamples(t *testing.T) {
	d := api.Datagram{Seq: 5, Sent: 1, Echo: 2, Bytes: []byte{0x61}}
	b := made(t, api.Client, d)
	if got, e := Datagram(exampleKey(), api.Client, b); !sameDatagram(got, d) || e != api.OK {
		t.Errorf("Datagram of Bytes = %v, %v", got, e)
	}
	checkDatagram(t, exampleKey(), api.Client, b, api.OK)
	checkDatagram(t, exampleKey(), api.Server, b, api.ErrSide)
	checkDatagram(t, api.Block{}, api.Client, b, api.ErrTag)
	checkDatagram(t, exampleKey(), api.Client, b[:27], api.ErrShort)
}

// P8.1: answers that another program's AES-128 in OCB3 gave.
func TestKnownAnswers(t *testing.T) {
	for _, c := range []struct {
		from api.Side
		d    api.Datagram
		want string
	}{
		{api.Client, api.Datagram{Seq: 5, Sent: 1, Echo: 2, Bytes: []byte("a")}, "00000000000000050d3416130ed1fda4277570a21a28ab959609b03515"},
		{api.Server, api.Datagram{Seq: 5, Sent: 1, Echo: 2, Bytes: []byte("a")}, "800000000000000567036a8b69af70f5c73bcc4b3e6413141438bc8733"},
		{api.Client, api.Datagram{}, "00000000000000002b36d4a7578483a59806dad0c02de1e3ed98b17a"},
		{api.Server, api.Datagram{Seq: 1<<62 - 1, Sent: 65535, Echo: 65535, Bytes: rising(12)}, "bfffffffffffffff2f4e88564608b6d3f443d3b6629af467ec5007f664cb67b3ef0071ff1872a0fa"},
		{api.Client, api.Datagram{Seq: 0x0123456789abcdef, Sent: 0x1234, Echo: 0xfedc, Bytes: rising(13)}, "0123456789abcdef947910898ceeaa067650ed36e5b857ee1d6db15de4230746c83822f9a77d860b35"},
		{api.Server, api.Datagram{Seq: 0x0123456789abcdef, Sent: 0xff00, Echo: 0x00ff, Bytes: rising(40)}, "8123456789abcdef05df614254d3c389d17a7a7051498b7046afccd6b40241dd38d0175ed95a7482eabd75a9858a100dc290fe53e71f8509086e76582af0427243172ecb"},
	} {
		b := made(t, c.from, c.d)
		if got := hex.EncodeToString(b); got != c.want {
			t.Errorf("Bytes(%d, %v) = %s, want %s", c.from, c.d, got, c.want)
		}
		if d, e := Datagram(exampleKey(), c.from, b); !sameDatagram(d, c.d) || e != api.OK {
			t.Errorf("Datagram(%s) = %v, %v", c.want, d, e)
		}
	}
	great := made(t, api.Server, api.Datagram{Seq: 1<<62 - 1, Sent: 65535, Bytes: rising(65000)})
	sum := sha256.Sum256(great)
	if got := hex.EncodeToString(sum[:]); got != "11e0740b03c23157973f99b8ec164965a9d479f37e11056930a976cbb146077d" {
		t.Errorf("the sum of a great datagram is %s", got)
	}
}

// P8.1: datagrams at each edge of what may be, of both sides and of none.
func TestBytesEdges(t *testing.T) {
	for _, from := range sides() {
		for _, seq := range []uint64{0, 1, 2, 255, 256, 1<<32 - 1, 1 << 32, 1<<56 - 1, 1 << 56, 0x0102030405060708, 1<<62 - 2, 1<<62 - 1} {
			for _, size := range []int{0, 1, 11, 12, 13, 28, 29} {
				checkBytes(t, from, api.Datagram{Seq: seq, Sent: 0x102, Echo: 0x304, Bytes: rising(size)}, api.OK)
			}
		}
		for _, sent := range []uint16{0, 1, 255, 256, 65534, 65535} {
			for _, echo := range []uint16{0, 1, 255, 256, 65534, 65535} {
				checkBytes(t, from, api.Datagram{Seq: 9, Sent: sent, Echo: echo}, api.OK)
				checkBytes(t, from, api.Datagram{Seq: 9, Sent: sent, Echo: echo, Bytes: []byte("b")}, api.OK)
			}
		}
		for _, seq := range []uint64{0, 1<<62 - 1} {
			checkBytes(t, from, api.Datagram{Seq: seq, Echo: 65535, Bytes: rising(64999)}, api.OK)
			checkBytes(t, from, api.Datagram{Seq: seq, Sent: 65535, Bytes: rising(65000)}, api.OK)
			checkBytes(t, from, api.Datagram{Seq: seq, Bytes: rising(65001)}, api.ErrArg)
			checkBytes(t, from, api.Datagram{Seq: seq, Bytes: rising(65532)}, api.ErrArg)
			checkBytes(t, from, api.Datagram{Seq: seq, Bytes: rising(70000)}, api.ErrArg)
		}
		for _, seq := range []uint64{1 << 62, 1<<62 + 1, 1<<63 - 1, 1 << 63, 1<<63 + 5, math.MaxUint64} {
			checkBytes(t, from, api.Datagram{Seq: seq, Bytes: []byte("c")}, api.ErrArg)
			checkBytes(t, from, api.Datagram{Seq: seq, Bytes: rising(65001)}, api.ErrArg)
		}
	}
	for _, from := range noSides() {
		checkBytes(t, from, api.Datagram{}, api.ErrArg)
		checkBytes(t, from, api.Datagram{Seq: 5, Sent: 1, Echo: 2, Bytes: []byte("a")}, api.ErrArg)
		checkBytes(t, from, api.Datagram{Seq: 1 << 62, Bytes: rising(65001)}, api.ErrArg)
	}
}

// P8.1: no list of bytes is as an empty one.
func TestNoBytes(t *testing.T) {
	if a, b := made(t, api.Client, api.Datagram{}), made(t, api.Client, api.Datagram{Bytes: []byte{}}); !bytes.Equal(a, b) {
		t.Errorf("Bytes of nil = %x, of nothing %x", a, b)
	}
}

// P8.1: bytes that were sealed with the key as datagrams are, but are too short, too long, or of a number too great.
func TestDatagramSizes(t *testing.T) {
	for _, from := range sides() {
		head := slowHead(from, 5)
		for size := range 4 {
			checkDatagram(t, exampleKey(), from, slowSealed(exampleKey(), head, rising(size)), api.ErrShort)
		}
		for size := 4; size < 40; size++ {
			checkDatagram(t, exampleKey(), from, slowSealed(exampleKey(), head, rising(size)), api.OK)
		}
		checkDatagram(t, exampleKey(), from, slowSealed(exampleKey(), head, rising(65003)), api.OK)
		checkDatagram(t, exampleKey(), from, slowSealed(exampleKey(), head, rising(65004)), api.OK)
		checkDatagram(t, exampleKey(), from, slowSealed(exampleKey(), head, rising(65005)), api.ErrForm)
		checkDatagram(t, exampleKey(), from, slowSealed(exampleKey(), head, rising(65536)), api.ErrForm)
		for _, seq := range []uint64{1<<62 - 2, 1<<62 - 1} {
			checkDatagram(t, exampleKey(), from, slowSealed(exampleKey(), slowHead(from, seq), rising(9)), api.OK)
		}
		for _, seq := range []uint64{1 << 62, 1<<62 + 1, 1<<62 + 5, 1<<63 - 1} {
			checkDatagram(t, exampleKey(), from, slowSealed(exampleKey(), slowHead(from, seq), rising(9)), api.ErrForm)
		}
		checkDatagram(t, exampleKey(), from, nil, api.ErrShort)
		whole := made(t, from, api.Datagram{Seq: 5, Bytes: rising(50)})
		for cut := range whole {
			want := api.ErrTag
			if cut < 28 {
				want = api.ErrShort
			}
			checkDatagram(t, exampleKey(), from, whole[:cut], want)
		}
		checkDatagram(t, exampleKey(), from, append(bytes.Clone(whole), 0), api.ErrTag)
	}
}

// P8.1: of more than one fault the first is told: the side that is none, the size below 28, the other side, the form, the tag.
func TestDatagramFirstFault(t *testing.T) {
	for _, from := range sides() {
		own, others, great, greatOthers := slowHead(from, 5), slowHead(other(from), 5), slowHead(from, 1<<62), slowHead(other(from), 1<<62)
		for _, c := range []struct {
			head []byte
			size int
			want api.Errno
		}{
			{own, 8, api.ErrShort}, {own, 27, api.ErrShort}, {own, 28, api.ErrTag}, {own, 65028, api.ErrTag}, {own, 65029, api.ErrForm}, {own, 70000, api.ErrForm},
			{others, 8, api.ErrShort}, {others, 27, api.ErrShort}, {others, 28, api.ErrSide}, {others, 65028, api.ErrSide}, {others, 65029, api.ErrSide}, {others, 70000, api.ErrSide},
			{great, 8, api.ErrShort}, {great, 27, api.ErrShort}, {great, 28, api.ErrForm}, {great, 65028, api.ErrForm}, {great, 65029, api.ErrForm}, {great, 70000, api.ErrForm},
			{greatOthers, 8, api.ErrShort}, {greatOthers, 27, api.ErrShort}, {greatOthers, 28, api.ErrSide}, {greatOthers, 65028, api.ErrSide}, {greatOthers, 65029, api.ErrSide},
		} {
			b := append(bytes.Clone(c.head), make([]byte, c.size-8)...)
			checkDatagram(t, exampleKey(), from, b, c.want)
			for _, none := range noSides() {
				checkDatagram(t, exampleKey(), none, b, api.ErrArg)
			}
		}
	}
	for _, none := range noSides() {
		checkDatagram(t, exampleKey(), none, nil, api.ErrArg)
		checkDatagram(t, exampleKey(), none, numbered(t, api.Client, 1), api.ErrArg)
		checkDatagram(t, exampleKey(), none, numbered(t, api.Server, 1), api.ErrArg)
	}
}

// forgeries is a sealed datagram of the Seq 5 with each one of its bits turned, and what each one is told as.
func forgeries(t *testing.T, from api.Side) (l [][]byte, errs []api.Errno) {
	t.Helper()
	whole := made(t, from, api.Datagram{Seq: 5, Sent: 1, Echo: 2, Bytes: rising(20)})
	for bit := range 8 * len(whole) {
		turned := bytes.Clone(whole)
		turned[bit/8] ^= 128 >> (bit % 8)
		want := api.ErrTag
		switch bit {
		case 0:
			want = api.ErrSide
		case 1:
			want = api.ErrForm
		}
		l, errs = append(l, turned), append(errs, want)
	}
	return l, errs
}

// P8.1, P8.4, P0.3: what nobody sealed does not open: each bit and each byte turned, another key, another nonce, bytes beside.
func TestForged(t *testing.T) {
	for _, from := range sides() {
		l, errs := forgeries(t, from)
		for i, b := range l {
			checkDatagram(t, exampleKey(), from, b, errs[i])
		}
		d := api.Datagram{Seq: 5, Sent: 1, Echo: 2, Bytes: rising(20)}
		whole := made(t, from, d)
		for place := range whole {
			turned := bytes.Clone(whole)
			turned[place] ^= 255
			want := api.ErrTag
			if place == 0 {
				want = api.ErrSide
			}
			checkDatagram(t, exampleKey(), from, turned, want)
		}
		for bit := range 128 {
			key := exampleKey()
			key[bit/8] ^= 1 << (bit % 8)
			checkDatagram(t, key, from, whole, api.ErrTag)
		}
		head := slowHead(from, 5)
		long := slices.Concat(make([]byte, 4), head)
		for _, c := range []struct{ nonce, beside []byte }{
			{head, nil}, {slices.Concat(head, make([]byte, 4)), nil}, {slices.Concat([]byte{0, 0, 0, 1}, head), nil}, {long, head}, {long, long}, {long, []byte{0}},
		} {
			sealed, e := ocb.Seal(exampleKey(), c.nonce, c.beside, slowPlain(d))
			if e != api.OK {
				t.Fatal(e)
			}
			checkDatagram(t, exampleKey(), from, slices.Concat(head, sealed), api.ErrTag)
		}
		// Sealed with the key and for this number, but by the other side.
		moved := made(t, other(from), d)
		moved[0] ^= 128
		checkDatagram(t, exampleKey(), from, moved, api.ErrTag)
	}
}

// checkNew is a sealer where no error may be.
func checkNew(t testing.TB, from api.Side, next uint64) *Seal {
	t.Helper()
	s, e := New(exampleKey(), from, next)
	if s == nil || e != api.OK {
		t.Fatalf("New(%d, %d): %v", from, next, e)
	}
	return s
}

// checkNext holds Next to an error, to being the bytes of a datagram of the number that was the next one, and the number to be used just then.
func checkNext(t *testing.T, s *Seal, from api.Side, sent, echo uint16, b []byte, e api.Errno) {
	t.Helper()
	next := s.Used()
	var want []byte
	used := next
	if e == api.OK {
		want, _ = slowBytes(exampleKey(), from, api.Datagram{Seq: next, Sent: sent, Echo: echo, Bytes: b})
		used = next + 1
	}
	handed := roomy(b)
	whole := bytes.Clone(handed[:cap(handed)])
	out, got := s.Next(sent, echo, handed)
	if !bytes.Equal(out, want) || got != e || s.Used() != used {
		t.Fatalf("Next(%d, %d, %d bytes) of the number %d = %.60x, %v, and %d is the next; want %.60x, %v, %d", sent, echo, len(b), next, out, got, s.Used(), want, e, used)
	}
	if d, opened := Datagram(exampleKey(), from, out); e == api.OK && (opened != api.OK || d.Seq != next || !bytes.Equal(d.Bytes, b)) {
		t.Fatalf("what Next sealed opens as %d, %d bytes, %v", d.Seq, len(d.Bytes), opened)
	}
	spoil(out)
	if !bytes.Equal(handed[:cap(handed)], whole) {
		t.Fatal("Next changed what it was handed, or answers it")
	}
}

// P8.2: numbers from the first one on, for all edges of what is sealed.
func TestNext(t *testing.T) {
	for _, from := range sides() {
		for _, first := range []uint64{0, 1, 255, 1<<32 - 1, 1<<62 - 20} {
			s := checkNew(t, from, first)
			if s.Used() != first {
				t.Fatalf("the first number is %d, want %d", s.Used(), first)
			}
			for i := range 3 {
				checkNext(t, s, from, uint16(i), 65535, rising(i), api.OK)
				checkNext(t, s, from, 65535, 0, rising(30), api.OK)
				checkNext(t, s, from, 0, 0, nil, api.OK)
				checkNext(t, s, from, 1, 2, rising(65001), api.ErrArg)
			}
			checkNext(t, s, from, 3, 4, rising(65000), api.OK)
			checkNext(t, s, from, 3, 4, rising(70000), api.ErrArg)
			checkNext(t, s, from, 3, 4, []byte{}, api.OK)
			if s.Used() != first+11 {
				t.Fatalf("the next number is %d, want %d", s.Used(), first+11)
			}
		}
	}
}

// P8.2: the last numbers: 2^62 - 1 is sealed, 2^62 is not, and whoever asks for more is told what may not be first.
func TestNextStops(t *testing.T) {
	for _, from := range sides() {
		s := checkNew(t, from, 1<<62-2)
		checkNext(t, s, from, 1, 2, []byte("a"), api.OK)
		last := checkNew(t, from, 1<<62-1)
		checkNext(t, last, from, 1, 2, []byte("a"), api.OK)
		checkNext(t, s, from, 1, 2, []byte("b"), api.OK)
		end := checkNew(t, from, 1<<62)
		for _, s := range []*Seal{s, last, end} {
			for range 3 {
				if s.Used() != 1<<62 {
					t.Fatalf("the next number is %d", s.Used())
				}
				checkNext(t, s, from, 0, 0, nil, api.ErrStop)
				checkNext(t, s, from, 1, 2, rising(65000), api.ErrStop)
				checkNext(t, s, from, 1, 2, rising(65001), api.ErrArg)
			}
		}
	}
}

// P8.2: sides and numbers that may not be.
func TestNewRefuses(t *testing.T) {
	refused := func(from api.Side, next uint64) {
		t.Helper()
		if s, e := New(exampleKey(), from, next); s != nil || e != api.ErrArg {
			t.Errorf("New(%d, %d) = %v, %v", from, next, s, e)
		}
	}
	for _, from := range sides() {
		for _, next := range []uint64{1<<62 + 1, 1<<62 + 2, 1<<63 - 1, 1 << 63, 1<<63 + 1, math.MaxUint64} {
			refused(from, next)
		}
	}
	for _, from := range noSides() {
		for _, next := range []uint64{0, 5, 1<<62 - 1, 1 << 62, 1<<62 + 1} {
			refused(from, next)
		}
		if o, e := NewOpen(exampleKey(), from); o != nil || e != api.ErrArg {
			t.Errorf("NewOpen(%d) = %v, %v", from, o, e)
		}
	}
}

// P8.2, P8.4: what is sealed hangs on the key, the side and the number, which each sealer has for itself.
func TestSealersApart(t *testing.T) {
	a, b := checkNew(t, api.Client, 3), checkNew(t, api.Client, 3)
	checkNext(t, a, api.Client, 1, 2, []byte("a"), api.OK)
	checkNext(t, a, api.Client, 1, 2, []byte("a"), api.OK)
	if a.Used() != 5 || b.Used() != 3 {
		t.Errorf("the next numbers are %d and %d", a.Used(), b.Used())
	}
	another, _ := New(api.Block{9}, api.Client, 3)
	x, _ := another.Next(1, 2, []byte("a"))
	want, _ := slowBytes(api.Block{9}, api.Client, api.Datagram{Seq: 3, Sent: 1, Echo: 2, Bytes: []byte("a")})
	if !bytes.Equal(x, want) {
		t.Errorf("Next with another key = %x, want %x", x, want)
	}
}

// P8.2, rule 5: answers of one sealer share no memory, and what was handed in may be used for the next ones.
func TestNextAnswersApart(t *testing.T) {
	s := checkNew(t, api.Server, 0)
	room := rising(100)
	var answers, wanted [][]byte
	for i := range 20 {
		room[0] = byte(i)
		out, e := s.Next(1, 2, room[:i*5])
		if e != api.OK {
			t.Fatal(e)
		}
		answers, wanted = append(answers, out), append(wanted, bytes.Clone(out))
	}
	spoil(room)
	for i := range answers {
		if !bytes.Equal(answers[i], wanted[i]) {
			t.Fatalf("the answer %d was changed", i)
		}
		spoil(answers[i])
	}
}

// P8.4, P0.3: no number is sealed twice, whatever is asked for in between, and both sides' heads are apart.
func TestNoNumberTwice(t *testing.T) {
	heads := map[[8]byte]int{}
	for _, from := range sides() {
		s := checkNew(t, from, 250)
		asked := 250
		for i := range 500 {
			b := []byte("some")
			switch i % 5 {
			case 1:
				b = rising(65001)
			case 2:
				b = nil
			}
			out, e := s.Next(uint16(i), 0, b)
			if (e != api.OK) != (len(b) > 65000) {
				t.Fatalf("Next of %d bytes: %v", len(b), e)
			}
			if e != api.OK {
				continue
			}
			heads[[8]byte(out)]++
			asked++
		}
		if s.Used() != uint64(asked) {
			t.Errorf("the next number is %d, want %d", s.Used(), asked)
		}
	}
	if len(heads) != 800 {
		t.Errorf("there are %d heads of 800 datagrams", len(heads))
	}
}

// checkOpen is an opener where no error may be.
func checkOpen(t testing.TB, from api.Side) *Open {
	t.Helper()
	o, e := NewOpen(exampleKey(), from)
	if o == nil || e != api.OK {
		t.Fatalf("NewOpen(%d): %v", from, e)
	}
	return o
}

func checkCounts(t *testing.T, o *Open, taken, old, bad int) {
	t.Helper()
	if a, b, c := o.Counts(); a != taken || b != old || c != bad {
		t.Fatalf("Counts = %d, %d, %d, want %d, %d, %d", a, b, c, taken, old, bad)
	}
}

// checkTake holds Take to an error, to the slow reading with all that came ahead, to the counts behind it, and what it was handed to staying as it is.
func checkTake(t *testing.T, o *Open, slow *slowOpen, b []byte, e api.Errno) {
	t.Helper()
	handed := roomy(b)
	whole := bytes.Clone(handed[:cap(handed)])
	want, told := slow.take(b)
	d, got := o.Take(handed)
	if !sameDatagram(d, want) || got != e || told != e {
		t.Fatalf("Take(%.60x of %d bytes) = %d, %d, %d, %.40x, %v, want %d, %d, %d, %.40x, %v (or %v)", b, len(b), d.Seq, d.Sent, d.Echo, d.Bytes, got, want.Seq, want.Sent, want.Echo, want.Bytes, e, told)
	}
	checkCounts(t, o, len(slow.taken), slow.old, slow.wrong)
	spoil(d.Bytes)
	if !bytes.Equal(handed[:cap(handed)], whole) {
		t.Fatal("Take changed what it was handed, or answers it")
	}
}

// P8.3: the examples of the chapter, and the fourth one of the whole.
func TestTakeExamples(t *testing.T) {
	o, slow := checkOpen(t, api.Client), &slowOpen{key: exampleKey(), from: api.Client}
	checkCounts(t, o, 0, 0, 0)
	for _, c := range []struct {
		seq             uint64
		e               api.Errno
		taken, old, bad int
	}{{5, api.OK, 1, 0, 0}, {5, api.ErrOld, 1, 1, 0}, {4, api.ErrOld, 1, 2, 0}, {6, api.OK, 2, 2, 0}} {
		checkTake(t, o, slow, numbered(t, api.Client, c.seq), c.e)
		checkCounts(t, o, c.taken, c.old, c.bad)
	}
}

// P8.3: numbers from each edge on: the first one is taken whatever it is, and behind the last one none is.
func TestTakeEdges(t *testing.T) {
	for _, from := range sides() {
		for _, first := range []uint64{0, 1, 255, 1 << 32, 1<<62 - 2, 1<<62 - 1} {
			o, slow := checkOpen(t, from), &slowOpen{key: exampleKey(), from: from}
			checkTake(t, o, slow, numbered(t, from, first), api.OK)
			checkTake(t, o, slow, numbered(t, from, first), api.ErrOld)
			checkTake(t, o, slow, numbered(t, from, 0), api.ErrOld)
			behind := api.OK
			if first == 1<<62-1 {
				behind = api.ErrOld
			}
			checkTake(t, o, slow, numbered(t, from, 1<<62-1), behind)
			checkTake(t, o, slow, numbered(t, from, 1<<62-1), api.ErrOld)
			checkTake(t, o, slow, numbered(t, from, first), api.ErrOld)
			checkTake(t, o, slow, slowSealed(exampleKey(), slowHead(from, 1<<62), rising(9)), api.ErrForm)
		}
		o, slow := checkOpen(t, from), &slowOpen{key: exampleKey(), from: from}
		checkTake(t, o, slow, made(t, from, api.Datagram{Seq: 1, Sent: 65535, Bytes: rising(65000)}), api.OK)
		checkTake(t, o, slow, made(t, from, api.Datagram{Seq: 1, Echo: 65535}), api.ErrOld)
		checkTake(t, o, slow, made(t, from, api.Datagram{Seq: 2, Echo: 65535}), api.OK)
	}
}

// P8.3: of an old number that has another fault, that fault is told; and what has a fault takes nothing: the same number without it is taken behind.
func TestTakeWrong(t *testing.T) {
	for _, from := range sides() {
		o, slow := checkOpen(t, from), &slowOpen{key: exampleKey(), from: from}
		l, errs := forgeries(t, from)
		wrong := func() {
			for i, b := range l {
				checkTake(t, o, slow, b, errs[i])
			}
			checkTake(t, o, slow, nil, api.ErrShort)
			checkTake(t, o, slow, numbered(t, from, 3)[:27], api.ErrShort)
			checkTake(t, o, slow, numbered(t, other(from), 9), api.ErrSide)
			checkTake(t, o, slow, numbered(t, other(from), 0), api.ErrSide)
			checkTake(t, o, slow, slowSealed(exampleKey(), slowHead(from, 1<<62+9), rising(9)), api.ErrForm)
			checkTake(t, o, slow, slowSealed(exampleKey(), slowHead(from, 9), rising(65005)), api.ErrForm)
			checkTake(t, o, slow, append(slowHead(from, 1<<62-1), make([]byte, 20)...), api.ErrTag)
			foreign, _ := Bytes(api.Block{9}, from, api.Datagram{Seq: 9})
			checkTake(t, o, slow, foreign, api.ErrTag)
		}
		wrong()
		checkCounts(t, o, 0, 0, len(l)+8)
		checkTake(t, o, slow, numbered(t, from, 0), api.OK)
		checkTake(t, o, slow, numbered(t, from, 5), api.OK)
		wrong()
		checkTake(t, o, slow, numbered(t, from, 5), api.ErrOld)
		checkTake(t, o, slow, numbered(t, from, 6), api.OK)
		wrong()
		checkTake(t, o, slow, numbered(t, from, 4), api.ErrOld)
		checkTake(t, o, slow, numbered(t, from, 7), api.OK)
		checkCounts(t, o, 4, 2, 3*(len(l)+8))
	}
}

// P8.3, P8.4: all short rows of datagrams: in order, doubled, turned about, with wrong ones between.
func TestTakeAllRows(t *testing.T) {
	turned := numbered(t, api.Server, 3)
	turned[20] ^= 1
	kinds := [][]byte{numbered(t, api.Server, 0), numbered(t, api.Server, 1), numbered(t, api.Server, 2), turned, numbered(t, api.Client, 3), turned[:27]}
	errs := []api.Errno{api.OK, api.OK, api.OK, api.ErrTag, api.ErrSide, api.ErrShort}
	const size, rows = 4, 6 * 6 * 6 * 6
	for row := range rows {
		o, slow := checkOpen(t, api.Server), &slowOpen{key: exampleKey(), from: api.Server}
		greatest := -1
		for step, rest := 0, row; step < size; step, rest = step+1, rest/6 {
			kind := rest % 6
			want := errs[kind]
			switch {
			case want != api.OK:
			case kind <= greatest:
				want = api.ErrOld
			default:
				greatest = kind
			}
			checkTake(t, o, slow, kinds[kind], want)
		}
	}
}

// P8.4: what one side's sealer seals the other side's opener takes, once, if nothing greater was taken ahead.
func TestOnce(t *testing.T) {
	for _, from := range sides() {
		s, o := checkNew(t, from, 0), checkOpen(t, from)
		slow := &slowOpen{key: exampleKey(), from: from}
		var sent [][]byte
		for i := range 60 {
			out, e := s.Next(uint16(i), uint16(2*i), rising(i))
			if e != api.OK {
				t.Fatal(e)
			}
			sent = append(sent, out)
		}
		// By fours: the second, the first, the fourth twice, the third.
		for i := 0; i < len(sent); i += 4 {
			checkTake(t, o, slow, sent[i+1], api.OK)
			checkTake(t, o, slow, sent[i], api.ErrOld)
			checkTake(t, o, slow, sent[i+3], api.OK)
			checkTake(t, o, slow, sent[i+3], api.ErrOld)
			checkTake(t, o, slow, sent[i+2], api.ErrOld)
		}
		for _, b := range sent {
			checkTake(t, o, slow, b, api.ErrOld)
		}
		checkCounts(t, o, 30, 45+60, 0)
		fresh, again := checkOpen(t, from), &slowOpen{key: exampleKey(), from: from}
		for _, b := range sent {
			checkTake(t, fresh, again, b, api.OK)
		}
		checkCounts(t, fresh, 60, 0, 0)
		checkCounts(t, o, 30, 45+60, 0)
	}
}

// P8.3, rule 5: what was taken stays as it was, whatever becomes of the bytes it was taken of and of later ones.
func TestTakeAnswersApart(t *testing.T) {
	o := checkOpen(t, api.Client)
	room := make([]byte, 0, 200)
	var taken []api.Datagram
	for i := range 20 {
		room = append(room[:0], made(t, api.Client, api.Datagram{Seq: uint64(i), Bytes: rising(i * 5)})...)
		d, e := o.Take(room)
		if e != api.OK {
			t.Fatal(e)
		}
		taken = append(taken, d)
	}
	spoil(room)
	for i, d := range taken {
		if !bytes.Equal(d.Bytes, rising(i*5)) {
			t.Fatalf("what was taken as number %d was changed", i)
		}
		spoil(d.Bytes)
	}
}

// P8.2, P8.3, rule 5: one that is not there, or that no call made, answers so to each call, however often it is asked.
func TestNotThere(t *testing.T) {
	for _, s := range []*Seal{nil, {}} {
		for _, b := range [][]byte{nil, []byte("a"), rising(65000), rising(65001), rising(70000)} {
			if out, e := s.Next(1, 2, b); len(out) != 0 || e != api.ErrNil || s.Used() != 0 {
				t.Errorf("Next of %d bytes = %x, %v, and %d is the next", len(b), out, e, s.Used())
			}
		}
	}
	for _, o := range []*Open{nil, {}} {
		for _, b := range [][]byte{nil, rising(27), numbered(t, api.Client, 1), numbered(t, api.Client, 1), numbered(t, api.Server, 1), rising(65029)} {
			if d, e := o.Take(b); !sameDatagram(d, api.Datagram{}) || e != api.ErrNil {
				t.Errorf("Take of %d bytes = %v, %v", len(b), d, e)
			}
			checkCounts(t, o, 0, 0, 0)
		}
	}
}

func BenchmarkNext(b *testing.B) {
	s, text := checkNew(b, api.Client, 0), rising(1400)
	b.SetBytes(int64(len(text)))
	for b.Loop() {
		s.Next(1, 2, text)
	}
}

func BenchmarkTakeForged(b *testing.B) {
	o, text := checkOpen(b, api.Client), make([]byte, 1400)
	b.SetBytes(int64(len(text)))
	for b.Loop() {
		o.Take(text)
	}
}
