package bits

import (
	"bytes"
	"math"
	"slices"
	"testing"

	"wayfarer/api"
)

// of is so many bits of a number.
func of(value uint64, size int) api.Bits { return api.Bits{Value: value, Size: size} }

// scrambled is so many numbers with no order to be seen, the same ones for the same seed.
func scrambled(count int, seed uint64) []uint64 {
	list := make([]uint64, count)
	for i := range list {
		seed = seed*6364136223846793005 + 1442695040888963407
		n := (seed ^ seed>>29) * 0xbf58476d1ce4e5b9
		list[i] = n ^ n>>32
	}
	return list
}

// scrambledBytes is so many bytes with no order to be seen.
func scrambledBytes(count int, seed uint64) []byte {
	b := make([]byte, count)
	for i, n := range scrambled(count, seed) {
		b[i] = byte(n)
	}
	return b
}

// cut is the lowest so many bits of a number, the others left off.
func cut(value uint64, size int) api.Bits {
	for k := size; k < 64; k++ {
		value &^= 1 << k
	}
	return of(value, size)
}

// mixed is so many bits of scrambled sizes from 0 to 64, with scrambled numbers and some at the edges.
func mixed(count int, seed uint64) []api.Bits {
	list := make([]api.Bits, count)
	values := scrambled(2*count, seed)
	for i := range list {
		value, size := values[2*i], int(values[2*i+1]%65)
		switch values[2*i+1] >> 60 {
		case 0:
			value = 0
		case 1:
			value = math.MaxUint64
		}
		list[i] = cut(value, size)
	}
	return list
}

// full is just as many bits as may be: so many times 64 ones.
func full() []api.Bits {
	return slices.Repeat([]api.Bits{of(math.MaxUint64, 64)}, api.MaxBytes/8)
}

// checkWritten holds Write and Count against the document's words, where no error may be.
func checkWritten(t *testing.T, l []api.Bits) []byte {
	t.Helper()
	row := slowBits(l)
	if n, e := Count(l...); n != len(row) || e != api.OK {
		t.Fatalf("Count(%.200v) = %d, %v, want %d", l, n, e, len(row))
	}
	b, e := Write(l...)
	if want := slowBytes(row); e != api.OK || !bytes.Equal(b, want) {
		t.Fatalf("Write(%.200v) = %.80x, %v, want %.80x", l, b, e, want)
	}
	return b
}

// checkRefused holds Write and Count to one error, beside nothing.
func checkRefused(t *testing.T, what string, want api.Errno, l ...api.Bits) {
	t.Helper()
	if n, e := Count(l...); n != 0 || e != want {
		t.Errorf("Count of %s = %d, %v, want %v", what, n, e, want)
	}
	if b, e := Write(l...); len(b) != 0 || e != want {
		t.Errorf("Write of %s = %d bytes, %v, want %v", what, len(b), e, want)
	}
}

// checkRead holds Read to an answer.
func checkRead(t *testing.T, b []byte, at, size int, want uint64, wantE api.Errno) {
	t.Helper()
	if n, e := Read(b, at, size); n != want || e != wantE {
		t.Fatalf("Read(%.40x, %d, %d) = %d, %v, want %d, %v", b, at, size, n, e, want, wantE)
	}
}

// checkReverse holds Reverse to an answer.
func checkReverse(t *testing.T, x, want api.Bits, wantE api.Errno) {
	t.Helper()
	if got, e := Reverse(x); got != want || e != wantE {
		t.Fatalf("Reverse(%v) = %v, %v, want %v, %v", x, got, e, want, wantE)
	}
}

// P3.1 and P3.2: the examples of the chapter.
func TestExamples(t *testing.T) {
	if b, e := Write(of(5, 3), of(1, 2), of(255, 8)); e != api.OK || !bytes.Equal(b, []byte{237, 31}) {
		t.Errorf("Write(5 of 3, 1 of 2, 255 of 8) = %d, %v", b, e)
	}
	if b, e := Write(); e != api.OK || len(b) != 0 {
		t.Errorf("Write() = %d, %v", b, e)
	}
	if b, e := Write(of(4, 2)); e != api.ErrArg || len(b) != 0 {
		t.Errorf("Write(4 of 2) = %d, %v", b, e)
	}
	if n, e := Count(of(5, 3), of(0, 0)); e != api.OK || n != 3 {
		t.Errorf("Count(5 of 3, 0 of 0) = %d, %v", n, e)
	}
	checkRead(t, []byte{237, 31}, 3, 2, 1, api.OK)
	checkRead(t, []byte{237, 31}, 5, 8, 255, api.OK)
	checkRead(t, []byte{1}, 1, 8, 0, api.ErrShort)
	checkReverse(t, of(1, 3), of(4, 3), api.OK)
}

// P3.1: bits that lie in one byte, across two and across nine, and what fills just a byte.
func TestWriteAcrossBytes(t *testing.T) {
	for _, c := range []struct {
		l    []api.Bits
		want []byte
	}{
		{[]api.Bits{of(1, 1)}, []byte{1}},
		{[]api.Bits{of(0, 1)}, []byte{0}},
		{[]api.Bits{of(0, 3), of(31, 5)}, []byte{0xf8}},
		{[]api.Bits{of(0, 4), of(0xab, 8)}, []byte{0xb0, 0x0a}},
		{[]api.Bits{of(0x80, 8), of(1, 1)}, []byte{0x80, 1}},
		{[]api.Bits{of(0, 7), of(3, 2)}, []byte{0x80, 1}},
		{[]api.Bits{of(0x1234, 16)}, []byte{0x34, 0x12}},
		{[]api.Bits{of(0x0807060504030201, 64)}, []byte{1, 2, 3, 4, 5, 6, 7, 8}},
		{[]api.Bits{of(0, 4), of(0x0807060504030201, 64)}, []byte{0x10, 0x20, 0x30, 0x40, 0x50, 0x60, 0x70, 0x80, 0}},
		{[]api.Bits{of(1, 1), of(1<<64-1, 64)}, []byte{255, 255, 255, 255, 255, 255, 255, 255, 1}},
		{[]api.Bits{of(0, 0), of(0, 0)}, nil},
		{[]api.Bits{of(0, 0), of(1, 1), of(0, 0), of(1, 1)}, []byte{3}},
	} {
		if got := checkWritten(t, c.l); !bytes.Equal(got, c.want) {
			t.Errorf("Write(%v) = %x, want %x", c.l, got, c.want)
		}
	}
}

// P3.1, P3.2 and P3.3: each size at each place within a byte, of noughts, of ones, of one bit alone and of others, with ones or noughts around.
func TestEachSizeAtEachPlace(t *testing.T) {
	for size := range 65 {
		values := append(scrambled(4, uint64(size)), 0, 1, math.MaxUint64, 1<<63)
		if size > 0 {
			values = append(values, 1<<(size-1))
		}
		for place := range 8 {
			for _, value := range values {
				x := cut(value, size)
				for _, around := range []uint64{0, math.MaxUint64} {
					b := checkWritten(t, []api.Bits{cut(around, place), x, cut(around, 13)})
					checkRead(t, b, place, size, x.Value, api.OK)
				}
			}
		}
	}
}

// P3.1: many bits of all sizes behind each other.
func TestWriteMany(t *testing.T) {
	for count := range 200 {
		checkWritten(t, mixed(count, uint64(count)))
	}
}

// P3.1: the places left in the last byte are 0.
func TestPlacesLeftAreNought(t *testing.T) {
	for size := range 65 {
		b, e := Write(cut(math.MaxUint64, size))
		if e != api.OK || len(b) != (size+7)/8 {
			t.Fatalf("Write of %d ones = %x, %v", size, b, e)
		}
		for at := size; at < 8*len(b); at++ {
			if b[at/8]>>(at%8)&1 != 0 {
				t.Errorf("Write of %d ones = %x", size, b)
			}
		}
	}
}

// P3.1: no bits at all, given as nothing, as an empty list and as bits of the size 0.
func TestNoBits(t *testing.T) {
	for _, l := range [][]api.Bits{nil, {}, {of(0, 0)}, make([]api.Bits, 1<<20)} {
		if n, e := Count(l...); n != 0 || e != api.OK {
			t.Errorf("Count of %d times no bits = %d, %v", len(l), n, e)
		}
		if b, e := Write(l...); len(b) != 0 || e != api.OK {
			t.Errorf("Write of %d times no bits = %x, %v", len(l), b, e)
		}
	}
}

// mayBeCases is bits at the edges of what may be.
func mayBeCases() (may, mayNot []api.Bits) {
	may = []api.Bits{of(0, 0), of(0, 63), of(0, 64), of(1<<63-1, 63), of(1<<63, 64), of(math.MaxUint64, 64)}
	mayNot = []api.Bits{
		of(0, -1), of(1, -1), of(math.MaxUint64, -1), of(0, 65), of(1, 65), of(math.MaxUint64, 65),
		of(0, -64), of(0, 128), of(0, math.MaxInt), of(0, math.MinInt), of(1, math.MaxInt), of(1, math.MinInt),
		of(1, 0), of(math.MaxUint64, 0), of(1<<63, 63), of(math.MaxUint64, 63), of(1<<8, 8), of(1<<63, 1),
	}
	for size := range 64 {
		may = append(may, of(1<<size-1, size))
		mayNot = append(mayNot, of(1<<size, size))
	}
	return may, mayNot
}

// P3.1 and P3.2: which bits may be, for each call that takes them, wherever in the list they stand.
func TestBitsThatMayBe(t *testing.T) {
	may, mayNot := mayBeCases()
	for _, x := range may {
		checkWritten(t, []api.Bits{x})
		checkWritten(t, []api.Bits{of(1, 3), x, of(2, 3)})
		checkReverse(t, x, slowReverse(x), api.OK)
	}
	for _, x := range mayNot {
		checkRefused(t, "bits that may not be", api.ErrArg, x)
		checkRefused(t, "bits that may not be, first", api.ErrArg, x, of(1, 1))
		checkRefused(t, "bits that may not be, last", api.ErrArg, of(1, 1), of(0, 0), x)
		checkReverse(t, x, api.Bits{}, api.ErrArg)
	}
}

// P3.1: just as many bits as may be, and one more.
func TestLimit(t *testing.T) {
	most := 8 * api.MaxBytes
	for _, l := range [][]api.Bits{full(), append(full(), of(0, 0)), slices.Repeat([]api.Bits{of(1, 1)}, most)} {
		if n, e := Count(l...); n != most || e != api.OK {
			t.Errorf("Count of the most = %d, %v", n, e)
		}
		b, e := Write(l...)
		if e != api.OK || !bytes.Equal(b, bytes.Repeat([]byte{255}, api.MaxBytes)) {
			t.Errorf("Write of the most = %d bytes, %v", len(b), e)
		}
	}
	fewer := append(full()[1:], of(1<<63-1, 63))
	if n, e := Count(fewer...); n != most-1 || e != api.OK {
		t.Errorf("Count of one fewer = %d, %v", n, e)
	}
	checkRefused(t, "one more", api.ErrLimit, append(full(), of(0, 1))...)
	checkRefused(t, "one more ahead", api.ErrLimit, append([]api.Bits{of(1, 1)}, full()...)...)
	checkRefused(t, "one more, bit by bit", api.ErrLimit, slices.Repeat([]api.Bits{of(0, 1)}, most+1)...)
	checkRefused(t, "one more across the end", api.ErrLimit, append(fewer, of(3, 2))...)
	checkRefused(t, "twice as many", api.ErrLimit, append(full(), full()...)...)
	checkRefused(t, "very many", api.ErrLimit, slices.Repeat([]api.Bits{of(0, 64)}, 1<<20)...)
}

// P3.1: bits that may not be come ahead of the limit, wherever they stand.
func TestWhichErrorIsFirst(t *testing.T) {
	_, mayNot := mayBeCases()
	for _, x := range mayNot {
		checkRefused(t, "bits that may not be behind too many", api.ErrArg, append(full(), of(0, 1), x)...)
		checkRefused(t, "bits that may not be behind just as many", api.ErrArg, append(full(), x)...)
	}
	checkRefused(t, "bits that may not be ahead of too many", api.ErrArg, append([]api.Bits{of(2, 1), of(0, 1)}, full()...)...)
	checkRefused(t, "bits that may not be far behind too many", api.ErrArg, append(append(full(), full()...), of(0, 65))...)
}

// P3.2: each place and size of some bytes, and what is too short.
func TestReadEachPlaceAndSize(t *testing.T) {
	for _, count := range []int{0, 1, 2, 8, 9, 10, 18} {
		for _, b := range [][]byte{scrambledBytes(count, 3), make([]byte, count), bytes.Repeat([]byte{255}, count)} {
			row := slowRow(b)
			for at := range len(row) + 20 {
				for size := range 65 {
					if at+size > len(row) {
						checkRead(t, b, at, size, 0, api.ErrShort)
						continue
					}
					checkRead(t, b, at, size, slowNumber(row[at:at+size]), api.OK)
				}
			}
		}
	}
}

// P3.2: 64 bits at each place within a byte, up to the last bit.
func TestReadAllOfANumber(t *testing.T) {
	b := []byte{0xef, 0xcd, 0xab, 0x89, 0x67, 0x45, 0x23, 0x01, 0x5a}
	for at, want := range []uint64{
		0x0123456789abcdef, 0x0091a2b3c4d5e6f7, 0x8048d159e26af37b, 0x402468acf13579bd, 0xa0123456789abcde,
		0xd0091a2b3c4d5e6f, 0x68048d159e26af37, 0xb402468acf13579b, 0x5a0123456789abcd,
	} {
		checkRead(t, b, at, 64, want, api.OK)
	}
	checkRead(t, b, 9, 64, 0, api.ErrShort)
}

// P3.2: the errors of Read at their edges, and which one comes first.
func TestReadErrors(t *testing.T) {
	nine := bytes.Repeat([]byte{255}, 9)
	for _, c := range []struct {
		b        []byte
		at, size int
		want     uint64
		e        api.Errno
	}{
		{nine, -1, 1, 0, api.ErrArg},
		{nine, -1, 0, 0, api.ErrArg},
		{nine, -8, 8, 0, api.ErrArg},
		{nine, math.MinInt, 1, 0, api.ErrArg},
		{nine, 0, -1, 0, api.ErrArg},
		{nine, 1, math.MinInt, 0, api.ErrArg},
		{nine, 0, 65, 0, api.ErrArg},
		{nine, 0, 72, 0, api.ErrArg},
		{nine, 0, math.MaxInt, 0, api.ErrArg},
		{nine, math.MaxInt, math.MaxInt, 0, api.ErrArg},
		{nine, math.MinInt, math.MinInt, 0, api.ErrArg},
		{nine, 73, 65, 0, api.ErrArg},
		{nine, 73, -1, 0, api.ErrArg},
		{nil, -1, 0, 0, api.ErrArg},
		{nil, 0, 65, 0, api.ErrArg},
		{nil, 1, -1, 0, api.ErrArg},
		{nine, 0, 0, 0, api.OK},
		{nine, 0, 1, 1, api.OK},
		{nine, 0, 64, math.MaxUint64, api.OK},
		{nine, 8, 64, math.MaxUint64, api.OK},
		{nine, 9, 64, 0, api.ErrShort},
		{nine, 71, 1, 1, api.OK},
		{nine, 71, 2, 0, api.ErrShort},
		{nine, 72, 0, 0, api.OK},
		{nine, 72, 1, 0, api.ErrShort},
		{nine, 73, 0, 0, api.ErrShort},
		{nine, math.MaxInt, 0, 0, api.ErrShort},
		{nine, math.MaxInt, 1, 0, api.ErrShort},
		{nine, math.MaxInt, 64, 0, api.ErrShort},
		{nine, math.MaxInt - 63, 64, 0, api.ErrShort},
		{nil, 0, 0, 0, api.OK},
		{[]byte{}, 0, 0, 0, api.OK},
		{nil, 0, 1, 0, api.ErrShort},
		{nil, 1, 0, 0, api.ErrShort},
		{nil, 0, 64, 0, api.ErrShort},
		{nil, math.MaxInt, 0, 0, api.ErrShort},
	} {
		checkRead(t, c.b, c.at, c.size, c.want, c.e)
	}
}

// P3.2: bytes that are read may be more than those that are written at once.
func TestReadBehindTheLimitOfWrite(t *testing.T) {
	b := append(make([]byte, 2*api.MaxBytes), 0xa5)
	checkRead(t, b, 16*api.MaxBytes, 8, 0xa5, api.OK)
	checkRead(t, b, 16*api.MaxBytes+8, 0, 0, api.OK)
	checkRead(t, b, 16*api.MaxBytes+1, 8, 0, api.ErrShort)
}

// P3.2: the room behind the end of the bytes is no part of them.
func TestReadNotBehindTheEnd(t *testing.T) {
	room := bytes.Repeat([]byte{255}, 20)
	for count := range 12 {
		checkRead(t, room[:count], 8*count, 1, 0, api.ErrShort)
		checkRead(t, room[:count], max(0, 8*count-63), 64, 0, api.ErrShort)
	}
}

// P3.2: known answers, and each bit of each size alone and left out.
func TestReverse(t *testing.T) {
	for _, c := range []struct{ x, want api.Bits }{
		{of(0, 0), of(0, 0)},
		{of(1, 1), of(1, 1)},
		{of(1, 2), of(2, 2)},
		{of(0x12, 8), of(0x48, 8)},
		{of(1, 63), of(1<<62, 63)},
		{of(1, 64), of(1<<63, 64)},
		{of(0x0123456789abcdef, 64), of(0xf7b3d591e6a2c480, 64)},
	} {
		checkReverse(t, c.x, c.want, api.OK)
	}
	for size := range 65 {
		ones := cut(math.MaxUint64, size)
		for k := range size {
			checkReverse(t, of(1<<k, size), of(1<<(size-1-k), size), api.OK)
			checkReverse(t, of(ones.Value^1<<k, size), of(ones.Value^1<<(size-1-k), size), api.OK)
		}
		for _, value := range scrambled(10, uint64(size)) {
			x := cut(value, size)
			checkReverse(t, x, slowReverse(x), api.OK)
		}
	}
}

// P3.3: Reverse twice is nothing.
func TestReverseTwice(t *testing.T) {
	may, _ := mayBeCases()
	for _, x := range append(may, mixed(1000, 9)...) {
		once, _ := Reverse(x)
		checkReverse(t, once, x, api.OK)
	}
}

// P3.3: what was written is read at its place, up to as many bits as may be, and nothing is read behind it.
func TestWrittenIsRead(t *testing.T) {
	for _, l := range [][]api.Bits{mixed(1, 4), mixed(300, 5), mixed(10000, 6), full(), slices.Repeat([]api.Bits{of(5, 3)}, 170000)} {
		b, e := Write(l...)
		if e != api.OK {
			t.Fatalf("Write of %d: %v", len(l), e)
		}
		at := 0
		for _, x := range l {
			checkRead(t, b, at, x.Size, x.Value, api.OK)
			at += x.Size
		}
		checkRead(t, b, 8*len(b), 1, 0, api.ErrShort)
	}
}

// Rule 5: what is handed in stays as it is, the room behind its end too; no answer shares memory with it or with another one.
func TestArgumentsAndAnswersAreApart(t *testing.T) {
	room := mixed(40, 7)
	before := slices.Clone(room)
	l := room[:20]
	first, _ := Write(l...)
	second, _ := Write(l...)
	Count(l...)
	for _, x := range l {
		Reverse(x)
	}
	if !slices.Equal(room, before) {
		t.Fatalf("the bits were changed")
	}
	want := bytes.Clone(second)
	clear(first[:cap(first)])
	clear(room)
	if !bytes.Equal(second, want) {
		t.Errorf("two answers of Write share memory")
	}
	b := scrambledBytes(40, 8)
	same := bytes.Clone(b)
	for at := range 8 * 20 {
		Read(b[:20], at, 64)
		Read(b[:20], at, 7)
	}
	if !bytes.Equal(b, same) {
		t.Errorf("the bytes that were read were changed")
	}
}

// Rule 3: a call that was refused changes nothing of the next one.
func TestRefusedChangesNothing(t *testing.T) {
	l := mixed(50, 10)
	want := checkWritten(t, l)
	checkRefused(t, "bits that may not be", api.ErrArg, append(slices.Clone(l), of(2, 1))...)
	checkRefused(t, "too many", api.ErrLimit, append(full(), l...)...)
	if got := checkWritten(t, l); !bytes.Equal(got, want) {
		t.Errorf("Write again = %x, want %x", got, want)
	}
}

func BenchmarkWrite(b *testing.B) {
	l := slices.Repeat([]api.Bits{of(5, 9)}, 10000)
	for range b.N {
		Write(l...)
	}
}

func BenchmarkRead(b *testing.B) {
	text := scrambledBytes(1024, 11)
	for i := range b.N {
		Read(text, i%8000, 15)
	}
}
