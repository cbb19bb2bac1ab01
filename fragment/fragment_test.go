package fragment

import (
	"bytes"
	"math"
	"slices"
	"testing"

	"wayfarer/api"
	"wayfarer/wire"
)

// part is one of some bytes.
func part(id uint64, n int, b ...byte) api.Part {
	return api.Part{Id: id, N: n, Bytes: b}
}

// last is one of some bytes that is the Last.
func last(id uint64, n int, b ...byte) api.Part {
	return api.Part{Id: id, N: n, Last: true, Bytes: b}
}

// rising is 00 01 02 .., and from the start again behind fa, so that no two parts of a usual size are alike.
func rising(size int) []byte {
	b := make([]byte, size)
	for i := range b {
		b[i] = byte(i % 251)
	}
	return b
}

// roomy is the bytes with room behind them that has bytes, too.
func roomy(b []byte) []byte {
	return slices.Concat(b, []byte{0x5a, 0xa5, 0x5a, 0xa5})[:len(b)]
}

// spoil turns all bytes about, those in the room behind the end too.
func spoil(b []byte) {
	for i := range b[:cap(b)] {
		b[:cap(b)][i] ^= 255
	}
}

func samePart(x, y api.Part) bool {
	return x.Id == y.Id && x.N == y.N && x.Last == y.Last && bytes.Equal(x.Bytes, y.Bytes)
}

func sameParts(x, y []api.Part) bool {
	return slices.EqualFunc(x, y, samePart)
}

// noise is numbers that look like chance and are always the same ones.
type noise uint64

func (n *noise) next() uint64 {
	*n = *n*6364136223846793005 + 1442695040888963407
	return uint64(*n >> 32)
}

// edgeIds is Ids whose forms have unlike sizes.
func edgeIds() []uint64 {
	return []uint64{0, 1, 127, 128, 300, 16383, 16384, 1<<32 - 1, 1 << 32, 1<<62 - 1, 1 << 62, 1<<63 - 1, 1 << 63, math.MaxUint64}
}

// form is the bytes of the forms of two numbers, and some more.
func form(id, second uint64, b ...byte) []byte {
	return slices.Concat(wire.Uint(id), wire.Uint(second), b)
}

// checkWrite holds Write to an error and to the slow reading, to being read again, what it was handed to staying as it is, and what it answers to being its own.
func checkWrite(t *testing.T, p api.Part, e api.Errno) {
	t.Helper()
	want, slow := slowWrite(p)
	handed := p
	handed.Bytes = roomy(p.Bytes)
	whole := bytes.Clone(handed.Bytes[:cap(handed.Bytes)])
	b, got := Write(handed)
	if !bytes.Equal(b, want) || got != e || slow != e {
		t.Fatalf("Write(%d, %d, %v, %d bytes) = %.40x, %v, want %.40x, %v (or %v)", p.Id, p.N, p.Last, len(p.Bytes), b, got, want, e, slow)
	}
	if e == api.OK {
		checkRead(t, b, api.OK)
		if back, read := Read(b); !samePart(back, p) || read != api.OK {
			t.Fatalf("Read of Write(%d, %d, %v, %d bytes) = %d, %d, %v, %d bytes, %v", p.Id, p.N, p.Last, len(p.Bytes), back.Id, back.N, back.Last, len(back.Bytes), read)
		}
	}
	again, _ := Write(handed)
	spoil(b)
	if !bytes.Equal(again, want) {
		t.Fatal("two answers of Write share memory")
	}
	if !bytes.Equal(handed.Bytes[:cap(handed.Bytes)], whole) {
		t.Fatal("Write changed what it was handed, or answers it")
	}
}

// checkRead holds Read to an error and to the slow reading, to being written again, what it was handed to staying as it is, and what it answers to being its own.
func checkRead(t *testing.T, b []byte, e api.Errno) {
	t.Helper()
	want, slow := slowRead(b)
	handed := roomy(b)
	whole := bytes.Clone(handed[:cap(handed)])
	p, got := Read(handed)
	if !samePart(p, want) || got != e || slow != e {
		t.Fatalf("Read(%.40x of %d bytes) = %d, %d, %v, %.40x, %v, want %d, %d, %v, %.40x, %v (or %v)", b, len(b), p.Id, p.N, p.Last, p.Bytes, got, want.Id, want.N, want.Last, want.Bytes, e, slow)
	}
	if e == api.OK {
		if back, written := Write(p); !bytes.Equal(back, b) || written != api.OK {
			t.Fatalf("Write of Read(%.40x of %d bytes) = %.40x, %v", b, len(b), back, written)
		}
	}
	again, _ := Read(handed)
	spoil(p.Bytes)
	if !samePart(again, want) {
		t.Fatal("two answers of Read share memory")
	}
	if !bytes.Equal(handed[:cap(handed)], whole) {
		t.Fatal("Read changed what it was handed, or answers it")
	}
}

// checkSplit holds Split to an error and to the slow reading, what it was handed to staying as it is, and what it answers to being its own, each list of it too.
func checkSplit(t *testing.T, id uint64, b []byte, size int, e api.Errno) {
	t.Helper()
	want, slow := slowSplit(id, b, size)
	handed := roomy(b)
	whole := bytes.Clone(handed[:cap(handed)])
	l, got := Split(id, handed, size)
	if !sameParts(l, want) || got != e || slow != e {
		t.Fatalf("Split(%d, %d bytes, %d) = %d parts, %v, want %d parts, %v (or %v)", id, len(b), size, len(l), got, len(want), e, slow)
	}
	again, _ := Split(id, handed, size)
	for i := range l {
		spoil(l[i].Bytes)
		for k := i + 1; k < len(l); k++ {
			if !samePart(l[k], want[k]) {
				t.Fatalf("the parts %d and %d of Split share memory", i, k)
			}
		}
	}
	if !sameParts(again, want) {
		t.Fatal("two answers of Split share memory")
	}
	if !bytes.Equal(handed[:cap(handed)], whole) {
		t.Fatal("Split changed what it was handed, or answers it")
	}
}

// P10.1: the examples of the chapter.
func TestExamples(t *testing.T) {
	l, e := Split(7, []byte{1, 2, 3}, 2)
	if !sameParts(l, []api.Part{part(7, 0, 1, 2), last(7, 1, 3)}) || e != api.OK {
		t.Fatalf("Split(7, 1 2 3, 2) = %v, %v", l, e)
	}
	if b, e := Write(l[0]); !bytes.Equal(b, []byte{7, 0, 1, 2}) || e != api.OK {
		t.Errorf("Write(its first) = %x, %v", b, e)
	}
	if p, e := Read([]byte{7, 3, 9}); !samePart(p, last(7, 1, 9)) || e != api.OK {
		t.Errorf("Read(07 03 09) = %v, %v", p, e)
	}
	checkSplit(t, 7, []byte{1}, 0, api.ErrArg)
	checkRead(t, []byte{7, 2}, api.ErrForm)
	checkRead(t, []byte{7}, api.ErrShort)
}

// P10.1: forms by hand: the Id, the number with the lowest bit for the Last, the bytes.
func TestKnownForms(t *testing.T) {
	for _, c := range []struct {
		p    api.Part
		want []byte
	}{
		{last(0, 0), []byte{0, 1}},
		{part(0, 0, 0), []byte{0, 0, 0}},
		{part(1, 1, 5, 6), []byte{1, 2, 5, 6}},
		{part(1, 63, 5), []byte{1, 126, 5}},
		{last(1, 63, 5), []byte{1, 127, 5}},
		{part(1, 64, 5), []byte{1, 0x80, 1, 5}},
		{last(127, 64, 5), []byte{127, 0x81, 1, 5}},
		{last(128, 127), []byte{0x80, 1, 0xff, 1}},
		{part(300, 128, 0x80), []byte{0xac, 2, 0x80, 2, 0x80}},
		{part(5, 255, 1), []byte{5, 0xfe, 3, 1}},
		{last(math.MaxUint64, 255, 1), []byte{255, 255, 255, 255, 255, 255, 255, 255, 255, 1, 0xff, 3, 1}},
	} {
		b, e := Write(c.p)
		if !bytes.Equal(b, c.want) || e != api.OK {
			t.Errorf("Write(%v) = %x, %v, want %x", c.p, b, e, c.want)
		}
		p, e := Read(c.want)
		if !samePart(p, c.p) || e != api.OK {
			t.Errorf("Read(%x) = %v, %v, want %v", c.want, p, e, c.p)
		}
	}
}

// P10.1: parts at each edge of what may be, and one past it.
func TestWriteEdges(t *testing.T) {
	for _, id := range edgeIds() {
		for _, n := range []int{0, 1, 63, 64, 127, 128, 254, 255} {
			for _, size := range []int{1, 2, 1023, 1024} {
				checkWrite(t, part(id, n, rising(size)...), api.OK)
				checkWrite(t, last(id, n, rising(size)...), api.OK)
			}
			checkWrite(t, last(id, n), api.OK)
			checkWrite(t, part(id, n), api.ErrArg)
			checkWrite(t, part(id, n, rising(1025)...), api.ErrArg)
			checkWrite(t, last(id, n, rising(1025)...), api.ErrArg)
			checkWrite(t, last(id, n, rising(70000)...), api.ErrArg)
		}
		for _, n := range []int{-1, -2, -255, -256, -257, math.MinInt32, math.MinInt, math.MinInt + 1, 256, 257, 511, 512, math.MaxInt32, 1 << 32, 1<<32 + 1, math.MaxInt - 255, math.MaxInt} {
			checkWrite(t, part(id, n, 1), api.ErrArg)
			checkWrite(t, last(id, n, 1), api.ErrArg)
			checkWrite(t, last(id, n), api.ErrArg)
		}
	}
}

// P10.1: forms that are cut short at each place.
func TestReadCut(t *testing.T) {
	for _, id := range edgeIds() {
		for _, n := range []uint64{0, 63, 64, 255} {
			whole := form(id, 2*n, 1, 2, 3)
			head := len(whole) - 3
			for size := range head {
				checkRead(t, whole[:size], api.ErrShort)
			}
			checkRead(t, whole[:head], api.ErrForm)
			for size := head + 1; size <= len(whole); size++ {
				checkRead(t, whole[:size], api.OK)
			}
			checkRead(t, form(id, 2*n+1), api.OK)
		}
	}
	checkRead(t, nil, api.ErrShort)
	checkRead(t, []byte{}, api.ErrShort)
}

// noForms is bytes that begin as no number does.
func noForms() [][]byte {
	return [][]byte{
		{0x80, 0},
		{0x81, 0},
		{0xff, 0x80, 0},
		{0x80, 0x80, 0x80, 0},
		{255, 255, 255, 255, 255, 255, 255, 255, 255, 0},
		{255, 255, 255, 255, 255, 255, 255, 255, 255, 2},
		{128, 128, 128, 128, 128, 128, 128, 128, 128, 2},
		{255, 255, 255, 255, 255, 255, 255, 255, 255, 127},
		{255, 255, 255, 255, 255, 255, 255, 255, 255, 128},
		{255, 255, 255, 255, 255, 255, 255, 255, 255, 129},
		{255, 255, 255, 255, 255, 255, 255, 255, 255, 255},
		{128, 128, 128, 128, 128, 128, 128, 128, 128, 128, 1},
	}
}

// P10.1: numbers that are no form, in both places; the first one that is met from the left counts.
func TestReadNoNumber(t *testing.T) {
	for _, bad := range noForms() {
		for _, behind := range [][]byte{nil, {1}, {1, 5}, {0x80}, {0x80, 0}, {0, 5}} {
			checkRead(t, slices.Concat(bad, behind), api.ErrForm)
		}
		for _, id := range edgeIds() {
			checkRead(t, slices.Concat(wire.Uint(id), bad), api.ErrForm)
			checkRead(t, slices.Concat(wire.Uint(id), bad, []byte{1, 2}), api.ErrForm)
			checkRead(t, slices.Concat(wire.Uint(id), bad, rising(1025)), api.ErrForm)
		}
	}
	checkRead(t, []byte{0x80, 0x80}, api.ErrShort)
	checkRead(t, []byte{5, 0x80, 0x80, 0x80}, api.ErrShort)
	checkRead(t, bytes.Repeat([]byte{255}, 9), api.ErrShort)
	checkRead(t, append([]byte{5}, bytes.Repeat([]byte{255}, 9)...), api.ErrShort)
}

// P10.1: numbers and bytes of parts that may not be.
func TestReadNoPart(t *testing.T) {
	for _, id := range edgeIds() {
		for _, second := range []uint64{512, 513, 514, 1023, 1024, 1 << 16, 1<<16 + 1, 1 << 32, 1<<32 + 1, 1 << 33, 1<<33 + 1, 1<<63 - 1, 1 << 63, 1<<63 + 1, 1<<63 + 511, math.MaxUint64 - 1, math.MaxUint64} {
			for _, size := range []int{0, 1, 2, 1024, 1025} {
				checkRead(t, form(id, second, rising(size)...), api.ErrForm)
			}
		}
		for second := range uint64(512) {
			odd := second%2 == 1
			if odd {
				checkRead(t, form(id, second), api.OK)
			} else {
				checkRead(t, form(id, second), api.ErrForm)
			}
			checkRead(t, form(id, second, 9), api.OK)
		}
		for _, second := range []uint64{0, 1, 510, 511} {
			checkRead(t, form(id, second, rising(1023)...), api.OK)
			checkRead(t, form(id, second, rising(1024)...), api.OK)
			checkRead(t, form(id, second, rising(1025)...), api.ErrForm)
			checkRead(t, form(id, second, rising(70000)...), api.ErrForm)
		}
	}
}

// checkAsSlow holds Read to the slow reading, whatever that answers.
func checkAsSlow(t *testing.T, b []byte) {
	t.Helper()
	_, e := slowRead(b)
	checkRead(t, b, e)
}

// P10.1: all bytes that are few, and many that look like chance, are one part or one error.
func TestReadHostile(t *testing.T) {
	for a := range 256 {
		checkAsSlow(t, []byte{byte(a)})
		for b := range 256 {
			checkAsSlow(t, []byte{byte(a), byte(b)})
			for _, c := range []byte{0, 1, 2, 3, 4, 127, 128, 129, 255} {
				checkAsSlow(t, []byte{byte(a), byte(b), c})
				checkAsSlow(t, []byte{byte(a), byte(b), c, 1})
			}
		}
	}
	n := noise(10)
	for range 20000 {
		b := make([]byte, n.next()%24)
		for i := range b {
			b[i] = byte(n.next())
			if n.next()%3 == 0 {
				b[i] |= 128
			}
			if n.next()%5 == 0 {
				b[i] = byte(n.next() % 4)
			}
		}
		checkAsSlow(t, b)
	}
}

// P10.1: Split of no bytes and of few, with sizes at each edge.
func TestSplitSizes(t *testing.T) {
	for _, id := range []uint64{0, 1, 7, math.MaxUint64} {
		for length := range 20 {
			for _, size := range []int{1, 2, 3, 4, 5, 7, 18, 19, 20, 1023, 1024} {
				checkSplit(t, id, rising(length), size, api.OK)
			}
			for _, size := range []int{0, -1, -2, math.MinInt, math.MinInt + 1, 1025, 1026, 65536, 1 << 32, 1<<32 + 1, math.MaxInt} {
				checkSplit(t, id, rising(length), size, api.ErrArg)
			}
		}
	}
	l, e := Split(9, nil, 5)
	if !sameParts(l, []api.Part{last(9, 0)}) || e != api.OK {
		t.Errorf("Split of no bytes = %v, %v", l, e)
	}
	l, e = Split(9, []byte{1, 2, 3, 4}, 2)
	if !sameParts(l, []api.Part{part(9, 0, 1, 2), last(9, 1, 3, 4)}) || e != api.OK {
		t.Errorf("Split of 4 by 2 = %v, %v", l, e)
	}
}

// P10.1: Split at MaxParts parts and past it; ErrArg stands ahead of ErrLimit.
func TestSplitLimit(t *testing.T) {
	for _, size := range []int{1, 2, 3, 16, 500, 1023, 1024} {
		most := 256 * size
		for _, length := range []int{255 * size, 255*size + 1, most - 1, most} {
			checkSplit(t, 3, rising(length), size, api.OK)
		}
		l, _ := Split(3, rising(most), size)
		if len(l) != 256 || !l[255].Last || l[255].N != 255 || len(l[255].Bytes) != size || l[254].Last {
			t.Errorf("Split of %d by %d has %d parts", most, size, len(l))
		}
		for _, length := range []int{most + 1, most + size, 2*most + 1} {
			checkSplit(t, 3, rising(length), size, api.ErrLimit)
		}
	}
	for _, size := range []int{0, -1, math.MinInt, 1025, math.MaxInt} {
		checkSplit(t, 3, rising(256*1024+1), size, api.ErrArg)
	}
}

// P10.1: each part of Split may be written and is read again.
func TestSplitForms(t *testing.T) {
	for _, length := range []int{0, 1, 1024, 1025, 262144} {
		l, e := Split(1<<40, rising(length), 1024)
		if e != api.OK {
			t.Fatalf("Split of %d: %v", length, e)
		}
		for _, p := range l {
			checkWrite(t, p, api.OK)
		}
	}
}
