package inflate

import (
	"bytes"
	"compress/flate"
	"math"
	"slices"
	"strings"
	"testing"

	"wayfarer/api"
)

// scrambled is so many bytes below a bound with no order to be seen, the same ones for the same seed.
func scrambled(count, below int, seed uint64) []byte {
	b := make([]byte, count)
	for i := range b {
		seed = seed*6364136223846793005 + 1442695040888963407
		n := (seed ^ seed>>29) * 0xbf58476d1ce4e5b9
		b[i] = byte((n ^ n>>32) % uint64(below))
	}
	return b
}

// roomy is bytes with room behind their end, which is filled.
func roomy(b []byte) []byte {
	room := append(slices.Clone(b), 0x5a, 0x5a, 0x5a, 0x5a)
	return room[:len(b)]
}

// check holds Inflate to an answer, and what it was handed to staying as it is.
func check(t *testing.T, b []byte, most int, want []byte, used int, e api.Errno) {
	t.Helper()
	handed := roomy(b)
	whole := slices.Clone(handed[:cap(handed)])
	out, n, got := Inflate(handed, most)
	if !bytes.Equal(out, want) || n != used || got != e {
		t.Fatalf("Inflate(%.40x, %d) = %.40x (%d bytes), %d, %v, want %.40x (%d bytes), %d, %v", b, most, out, len(out), n, got, want, len(want), used, e)
	}
	if !bytes.Equal(handed[:cap(handed)], whole) {
		t.Fatalf("Inflate(%.40x, %d) changed what it was handed", b, most)
	}
	for i := range out[:cap(out)] {
		out[:cap(out)][i] ^= 255
	}
	if !bytes.Equal(handed[:cap(handed)], whole) {
		t.Fatalf("Inflate(%.40x, %d) answers memory that it was handed", b, most)
	}
}

// checkText holds Inflate of a text of bits to an answer, whatever the bits left in its last byte are.
func checkText(t *testing.T, text string, most int, want []byte, e api.Errno) {
	t.Helper()
	used := 0
	if e == api.OK {
		used = (len(text) + 7) / 8
	}
	check(t, packed(text, 0), most, want, used, e)
	check(t, packed(text, 1), most, want, used, e)
}

// checkEnd holds Inflate to an error that is met with the last bit of a text: with its byte filled in any way, or ending right there, and one bit sooner the stream is too short.
func checkEnd(t *testing.T, text string, most int, e api.Errno) {
	t.Helper()
	checkText(t, text, most, nil, e)
	checkText(t, text+"0101010101010101", most, nil, e)
	shift := nothing((8 - len(text)%8) % 8)
	check(t, packed(shift+text, 0), most, nil, 0, e)
	shift = nothing((9 - len(text)%8) % 8)
	check(t, packed(shift+text[:len(text)-1], 0), most, nil, 0, api.ErrShort)
}

// checkSlow holds Inflate to what the document's words say.
func checkSlow(t *testing.T, b []byte, most int) api.Errno {
	t.Helper()
	out, count, e := slowInflate(unpacked(b), most)
	check(t, b, most, out, (count+7)/8, e)
	return e
}

// P5.1 and P5.2: the examples of the chapter.
func TestExamples(t *testing.T) {
	check(t, []byte{3, 0}, 9, nil, 2, api.OK)
	check(t, []byte{0x4b, 4, 0}, 9, []byte{0x61}, 3, api.OK)
	check(t, []byte{1, 2, 0, 0xfd, 0xff, 0x61, 0x62, 0x63}, 9, []byte{0x61, 0x62}, 7, api.OK)
	check(t, []byte{0x4b, 4, 0}, 0, nil, 0, api.ErrLimit)
	check(t, []byte{7}, 9, nil, 0, api.ErrForm)
	check(t, []byte{1, 2, 0, 0xfd}, 9, nil, 0, api.ErrShort)
	check(t, []byte{1, 1, 0, 0xff, 0xff, 0x61}, 9, nil, 0, api.ErrForm)
	checkMeasure(t, "Length", Length, 265, 11, 1, api.OK)
	checkMeasure(t, "Length", Length, 285, 258, 0, api.OK)
	checkMeasure(t, "Distance", Distance, 29, 24577, 13, api.OK)
	checkMeasure(t, "Distance", Distance, 30, 0, 0, api.ErrArg)
}

func checkMeasure(t *testing.T, name string, f func(int) (int, int, api.Errno), symbol, base, extra int, e api.Errno) {
	t.Helper()
	if b, x, got := f(symbol); b != base || x != extra || got != e {
		t.Errorf("%s(%d) = %d, %d, %v, want %d, %d, %v", name, symbol, b, x, got, base, extra, e)
	}
}

// P5.1: the fixed lengths, symbol by symbol, in memory of their own at each call.
func TestFixed(t *testing.T) {
	wantSymbols, wantDistances := slowFixed()
	for range 3 {
		symbols, distances := Fixed()
		if !slices.Equal(symbols, wantSymbols) || !slices.Equal(distances, wantDistances) {
			t.Fatalf("Fixed() = %d, %d", symbols, distances)
		}
		again, farther := Fixed()
		for _, l := range [][]int{symbols, distances} {
			for i := range l[:cap(l)] {
				l[:cap(l)][i] = -1
			}
		}
		if !slices.Equal(again, wantSymbols) || !slices.Equal(farther, wantDistances) {
			t.Fatal("two calls of Fixed share memory")
		}
		for i := range again[:cap(again)] {
			again[:cap(again)][i] = -2
		}
		if !slices.Equal(farther, wantDistances) {
			t.Fatal("the two lists of Fixed share memory")
		}
		check(t, []byte{0x4b, 4, 0}, 9, []byte("a"), 3, api.OK)
	}
}

// P5.1: every length symbol and every distance symbol, and the numbers outside of them.
func TestMeasures(t *testing.T) {
	for i, x := range slowLengths() {
		checkMeasure(t, "Length", Length, 257+i, x[0], x[1], api.OK)
	}
	for i, x := range slowDistances() {
		checkMeasure(t, "Distance", Distance, i, x[0], x[1], api.OK)
	}
	for _, symbol := range []int{256, 286, 287, 0, 29, -1, -257, math.MinInt, math.MinInt + 257, math.MaxInt} {
		checkMeasure(t, "Length", Length, symbol, 0, 0, api.ErrArg)
	}
	for _, symbol := range []int{-1, 30, 31, 257, math.MinInt, math.MaxInt} {
		checkMeasure(t, "Distance", Distance, symbol, 0, 0, api.ErrArg)
	}
}

// P5.2: a bound of -1, 0, 65536 and one more, ahead of all that is wrong with a stream.
func TestMost(t *testing.T) {
	for _, most := range []int{-1, 65537, math.MinInt, math.MaxInt} {
		for _, b := range [][]byte{nil, {}, {3, 0}, {0x4b, 4, 0}, {7}, {1}} {
			check(t, b, most, nil, 0, api.ErrArg)
		}
	}
	for _, most := range []int{0, 1, 65535, 65536} {
		check(t, nil, most, nil, 0, api.ErrShort)
		check(t, []byte{}, most, nil, 0, api.ErrShort)
		check(t, []byte{3, 0}, most, nil, 2, api.OK)
		check(t, []byte{7}, most, nil, 0, api.ErrForm)
		check(t, []byte{1, 0, 0, 255, 255}, most, nil, 5, api.OK)
	}
	check(t, []byte{0x4b, 4, 0}, 1, []byte("a"), 3, api.OK)
}

// P5.2: as many bytes as the bound and one more: stored, as single symbols, and within a piece.
func TestBound(t *testing.T) {
	c := fixedCoder()
	plain := scrambled(300, 256, 1)
	for _, n := range []int{1, 2, 3, 8, 299, 300} {
		text := storedBlock("", true, plain[:n])
		single := head(true, 1) + c.bytes(plain[:n]) + c.end()
		checkText(t, text, n, plain[:n], api.OK)
		checkText(t, single, n, plain[:n], api.OK)
		checkText(t, text, n-1, nil, api.ErrLimit)
		checkText(t, single, n-1, nil, api.ErrLimit)
		checkText(t, text, 0, nil, api.ErrLimit)
		checkText(t, single, 0, nil, api.ErrLimit)
	}
	piece := head(true, 1) + c.bytes([]byte("ab")) + c.piece(258, 2) + c.end()
	want := []byte(strings.Repeat("ab", 130))
	checkText(t, piece, 260, want, api.OK)
	checkText(t, piece, 261, want, api.OK)
	for most := range 260 {
		checkText(t, piece, most, nil, api.ErrLimit)
	}
}

// P5.2: 65536 bytes come out in each way, and one more does not.
func TestGreatestBound(t *testing.T) {
	c := fixedCoder()
	plain := scrambled(65537, 256, 2)
	stored := func(n int) string { return storedBlock(storedBlock("", false, plain[:65535]), true, plain[65535:n]) }
	single := func(n int) string { return head(true, 1) + c.bytes(plain[:n]) + c.end() }
	pieces := func(n int) string {
		return head(true, 1) + c.bytes([]byte("a")) + strings.Repeat(c.piece(258, 1), 254) + c.piece(n-65533, 1) + c.end()
	}
	checkText(t, stored(65536), 65536, plain[:65536], api.OK)
	checkText(t, single(65536), 65536, plain[:65536], api.OK)
	checkText(t, pieces(65536), 65536, bytes.Repeat([]byte("a"), 65536), api.OK)
	checkText(t, stored(65537), 65536, nil, api.ErrLimit)
	checkText(t, single(65537), 65536, nil, api.ErrLimit)
	checkText(t, pieces(65537), 65536, nil, api.ErrLimit)
}

// P5.2: of the bytes' end, the bound and the form the first one that is met is told.
func TestWhichIsFirst(t *testing.T) {
	c := fixedCoder()
	// A stored byte must be there to be one too many.
	check(t, []byte{1, 3, 0, 0xfc, 0xff, 'a'}, 1, nil, 0, api.ErrShort)
	check(t, []byte{1, 3, 0, 0xfc, 0xff, 'a', 'b'}, 1, nil, 0, api.ErrLimit)
	check(t, []byte{1, 3, 0, 0xfc, 0xff}, 0, nil, 0, api.ErrShort)
	// The numbers ahead of the bytes are looked at ahead of them, and the second one only when it is whole.
	check(t, []byte{1, 3, 0, 0xfd, 0xff, 'a', 'b', 'c'}, 0, nil, 0, api.ErrForm)
	check(t, []byte{1, 3, 0, 0}, 9, nil, 0, api.ErrShort)
	check(t, []byte{1, 3, 0, 0, 0}, 9, nil, 0, api.ErrForm)
	// A symbol is one byte too many when it is read.
	checkEnd(t, head(true, 1)+c.bytes([]byte("ab")), 1, api.ErrLimit)
	checkEnd(t, head(true, 1)+c.bytes([]byte("a"))+c.symbols[286], 1, api.ErrForm)
	checkEnd(t, head(true, 1)+c.bytes([]byte("a"))+c.symbols[287], 1, api.ErrForm)
	// A piece is too much, or goes back too far, when its last bit is read; too far is found ahead of the first byte.
	checkEnd(t, head(true, 1)+c.bytes([]byte("a"))+c.piece(3, 1), 1, api.ErrLimit)
	checkEnd(t, head(true, 1)+c.bytes([]byte("a"))+c.piece(3, 2), 1, api.ErrForm)
	checkEnd(t, head(true, 1)+c.bytes([]byte("a"))+c.piece(13, 5), 1, api.ErrForm)
	checkEnd(t, head(true, 1)+c.bytes([]byte("a")), 0, api.ErrLimit)
	// What is behind a fault is not met.
	checkText(t, head(true, 1)+c.bytes([]byte("a"))+c.piece(3, 2)+c.symbols[286], 9, nil, api.ErrForm)
	checkText(t, head(false, 1)+c.bytes([]byte("a"))+c.end()+head(true, 3), 0, nil, api.ErrLimit)
	checkText(t, head(false, 1)+c.bytes([]byte("a"))+c.end()+head(true, 3), 1, nil, api.ErrForm)
}

// P5.2: stored blocks at each place within a byte, of few bytes, of none and of the most there are.
func TestStored(t *testing.T) {
	for within := range 8 {
		for _, n := range []int{0, 1, 2, 255, 256, 65535} {
			plain := scrambled(n, 256, uint64(n))
			checkText(t, storedBlock(nothing(within), true, plain), n, plain, api.OK)
		}
		// The bits that are passed over count for nothing.
		text := nothing(within) + head(true, 0)
		for len(text)%8 != 0 {
			text += "1"
		}
		checkText(t, text+number(1, 16)+number(65534, 16)+number(7, 8), 9, []byte{7}, api.OK)
	}
}

// P5.2: blocks of each kind behind each other, in each order; pieces go back into the blocks ahead.
func TestBlocks(t *testing.T) {
	symbols, distances := skewed()
	fixed, own := fixedCoder(), newCoder(symbols, distances)
	for order := range 243 {
		text, want := "", []byte("begin")
		text = storedBlock(text, false, want)
		for i, rest := 0, order; i < 5; i, rest = i+1, rest/3 {
			part := scrambled(i+1, 256, uint64(order))
			back := len(want)
			switch rest % 3 {
			case 0:
				text = storedBlock(text, i == 4, part)
				want = append(want, part...)
				continue
			case 1:
				text += head(i == 4, 1) + fixed.bytes(part) + fixed.piece(5, back+len(part)) + fixed.end()
			case 2:
				text += dynamicLengths(i == 4, symbols, distances) + own.bytes(part) + own.piece(5, back+len(part)) + own.end()
			}
			want = append(append(want, part...), "begin"...)
		}
		checkText(t, text, len(want), want, api.OK)
		checkText(t, text, len(want)-1, nil, api.ErrLimit)
	}
}

// skewed is lengths of all symbols, not whole, and of sixteen distances, whole, from short ones to the longest.
func skewed() (symbols, distances []int) {
	symbols = slices.Repeat([]int{9}, 286)
	for i := range 13 {
		symbols[20*i] = i + 3
	}
	return symbols, []int{1, 2, 3, 4, 5, 6, 7, 8, 9, 10, 11, 12, 13, 14, 15, 15}
}

// P5.2: every byte, every length and every distance's ends, by the fixed lengths and by others.
func TestEverySymbol(t *testing.T) {
	var plain []byte
	for i := range 256 {
		plain = append(plain, byte(i))
	}
	long := scrambled(32768, 256, 3)
	ahead := storedBlock("", false, long)
	symbols := slices.Repeat([]int{9}, 286)
	distances := slices.Repeat([]int{5}, 30)
	for _, c := range []struct {
		begin func(last bool) string
		coder coder
	}{
		{func(last bool) string { return head(last, 1) }, fixedCoder()},
		{func(last bool) string { return dynamicLengths(last, symbols, distances) }, newCoder(symbols, distances)},
	} {
		checkText(t, c.begin(true)+c.coder.bytes(plain)+c.coder.end(), 256, plain, api.OK)
		for length := 3; length <= 258; length++ {
			want := slices.Concat(plain, plain, plain)[:256+length]
			checkText(t, c.begin(true)+c.coder.bytes(plain)+c.coder.piece(length, 256)+c.coder.end(), 600, want, api.OK)
		}
		// 258 may be told by the symbol 284 as well.
		checkText(t, c.begin(true)+c.coder.bytes([]byte("a"))+c.coder.symbols[284]+"11111"+c.coder.distance(1)+c.coder.end(), 259, bytes.Repeat([]byte("a"), 259), api.OK)
		for _, x := range slowDistances() {
			for _, distance := range []int{x[0], x[0] + 1<<x[1]/2, x[0] + 1<<x[1] - 1} {
				text := ahead + c.begin(true) + c.coder.piece(3, distance) + c.coder.end()
				want := slices.Clone(long)
				for range 3 {
					want = append(want, want[len(want)-distance])
				}
				checkText(t, text, 32771, want, api.OK)
			}
		}
	}
}

// P5.2: a piece reaches into what it tells; it goes back just to the beginning, and not one byte beyond.
func TestPieces(t *testing.T) {
	c := fixedCoder()
	for n := 1; n <= 20; n++ {
		plain := scrambled(n, 256, uint64(n))
		for distance := 1; distance <= n; distance++ {
			for _, length := range []int{3, 4, 10, 11, 57, 258} {
				want := slices.Clone(plain)
				for range length {
					want = append(want, want[len(want)-distance])
				}
				checkText(t, head(true, 1)+c.bytes(plain)+c.piece(length, distance)+c.end(), len(want), want, api.OK)
				checkText(t, storedBlock("", false, plain)+head(true, 1)+c.piece(length, distance)+c.end(), len(want), want, api.OK)
			}
		}
		checkEnd(t, head(true, 1)+c.bytes(plain)+c.piece(3, n+1), 65536, api.ErrForm)
		checkEnd(t, head(true, 1)+c.bytes(plain)+c.piece(258, 24577), 65536, api.ErrForm)
	}
	checkEnd(t, head(true, 1)+c.piece(3, 1), 9, api.ErrForm)
	checkEnd(t, head(true, 1)+c.piece(3, 1), 0, api.ErrForm)
	long := scrambled(32767, 256, 9)
	checkText(t, storedBlock("", false, long)+head(true, 1)+c.piece(3, 32768), 65536, nil, api.ErrForm)
}

// P5.2: the forms that are wrong in a block's head and in stored numbers.
func TestWrongHeads(t *testing.T) {
	for within := range 8 {
		checkEnd(t, nothing(within)+head(true, 3), 9, api.ErrForm)
		checkEnd(t, nothing(within)+head(false, 3), 9, api.ErrForm)
		for _, count := range []int{0, 1, 255, 256, 65535} {
			text := storedBlock(nothing(within), true, nil)
			text = text[:len(text)-32]
			for bit := range 16 {
				checkText(t, text+number(count, 16)+number((65535-count)^1<<bit, 16), 9, nil, api.ErrForm)
			}
			checkText(t, text+number(count, 16)+number(count, 16), 9, nil, api.ErrForm)
		}
	}
	for _, n := range []int{30, 31} {
		checkEnd(t, head(true, 2)+number(n, 5), 9, api.ErrForm)
		checkEnd(t, head(true, 2)+number(0, 5)+number(n, 5), 9, api.ErrForm)
		checkEnd(t, head(true, 2)+number(29, 5)+number(n, 5), 9, api.ErrForm)
	}
	// As many lengths as there may be.
	symbols, distances := slices.Repeat([]int{9}, 286), slices.Repeat([]int{5}, 30)
	c := newCoder(symbols, distances)
	checkText(t, dynamicLengths(true, symbols, distances)+c.bytes([]byte("a"))+c.end(), 9, []byte("a"), api.OK)
	// And as few.
	symbols, distances = append(make([]int, 256), 1), []int{0}
	checkText(t, dynamicLengths(true, symbols, distances)+"0", 9, nil, api.OK)
}

// P5.2: the lengths of the nineteen, told from four of them on to all; those that may not be are found when they are read whole.
func TestNineteen(t *testing.T) {
	for told := 4; told <= 19; told++ {
		// The last one that is told has a code, and 18: behind noughts it tells the lengths of 256 and of a distance.
		last := kindOrder()[told-1]
		kinds := make([]int, 19)
		kinds[18], kinds[last] = 1, 1
		codes := codeTexts(kinds)
		row := codes[18] + number(127, 7) + codes[18] + number(107, 7) + codes[last] + codes[last]
		text := dynamicHead(true, 257, 1, told, kinds) + row
		if last == 0 {
			checkEnd(t, text, 9, api.ErrForm)
		} else {
			checkText(t, text+strings.Repeat("0", last), 9, nil, api.OK)
		}
		// One more that has a code is too much.
		kinds[17] = 7
		checkEnd(t, dynamicHead(true, 257, 1, told, kinds), 9, api.ErrForm)
		// None has a code: that is found without a bit behind them.
		checkEnd(t, dynamicHead(true, 257, 1, told, make([]int, 19)), 9, api.ErrForm)
	}
	// Lengths that are not whole: a code that there is not is wrong with the first bit that no code begins with.
	kinds := make([]int, 19)
	kinds[18] = 2
	checkEnd(t, dynamicHead(true, 257, 1, 19, kinds)+"1", 9, api.ErrForm)
	checkEnd(t, dynamicHead(true, 257, 1, 19, kinds)+"01", 9, api.ErrForm)
	checkEnd(t, dynamicHead(true, 257, 1, 19, kinds)+"00"+number(127, 7)+"01", 9, api.ErrForm)
}

// manyNoughts tells so many lengths of 0, by 18 as far as it can.
func manyNoughts(n int) string {
	codes := codeTexts(plainKinds())
	text := ""
	for n >= 11 {
		text += codes[18] + number(min(138, n)-11, 7)
		n -= min(138, n)
	}
	return text + strings.Repeat(codes[0], n)
}

// P5.2: a row is told by 16, 17 and 18 with each of their extra bits, and not too long.
func TestRows(t *testing.T) {
	codes := codeTexts(plainKinds())
	// 0 and 256 have codes of one bit, then come so many distances.
	begin := func(distances int) string {
		return dynamicHead(true, 257, distances, 19, plainKinds()) + codes[1] + manyNoughts(255) + codes[1]
	}
	for _, c := range []struct{ symbol, least, size int }{{17, 3, 3}, {18, 11, 7}} {
		for extra := range 1 << c.size {
			told := codes[c.symbol] + number(extra, c.size)
			if times := c.least + extra; times <= 30 {
				checkText(t, begin(30)+manyNoughts(30-times)+told+"001", 2, []byte{0, 0}, api.OK)
				checkEnd(t, begin(30)+manyNoughts(31-times)+told, 9, api.ErrForm)
			} else {
				checkEnd(t, begin(30)+told, 9, api.ErrForm)
			}
			// The noughts between 0 and 256, of which just so many are told by this one.
			text := dynamicHead(true, 257, 1, 19, plainKinds()) + codes[1] + told + manyNoughts(255-c.least-extra) + codes[1] + codes[0]
			checkText(t, text+"001", 2, []byte{0, 0}, api.OK)
		}
	}
	for extra := range 4 {
		// 16 behind a length, behind noughts of 18, and behind what it told itself.
		told := codes[16] + number(extra, 2)
		checkText(t, begin(30)+codes[5]+told+manyNoughts(26-extra)+"001", 2, []byte{0, 0}, api.OK)
		checkText(t, begin(30)+manyNoughts(27-extra)+told+"001", 2, []byte{0, 0}, api.OK)
		checkText(t, begin(30)+codes[5]+told+told+manyNoughts(23-2*extra)+"001", 2, []byte{0, 0}, api.OK)
		checkEnd(t, begin(30)+manyNoughts(28-extra)+told, 9, api.ErrForm)
		checkEnd(t, begin(30)+codes[5]+manyNoughts(27-extra)+told, 9, api.ErrForm)
	}
	// As the first one 16 is wrong, ahead of its extra bits.
	checkEnd(t, dynamicHead(true, 257, 1, 19, plainKinds())+codes[16], 9, api.ErrForm)
}

// P5.2: symbols and distances are one row: 16 goes on over the seam, with the length ahead of it.
func TestSeam(t *testing.T) {
	codes := codeTexts(plainKinds())
	// 255 to 257 and the first distance have two bits each.
	begin := dynamicHead(true, 258, 3, 19, plainKinds()) + manyNoughts(255) + codes[2] + codes[16] + number(0, 2) + codes[0] + codes[0]
	checkText(t, begin+"00"+"01", 9, []byte{255}, api.OK)
	checkText(t, begin+"00"+"10"+"00"+"01", 9, []byte{255, 255, 255, 255}, api.OK)
	checkEnd(t, begin+"00"+"10"+"01", 9, api.ErrForm)
	checkEnd(t, begin+"11", 9, api.ErrForm)
}

// P5.2: lengths of symbols and of distances that may not be, and 256 having none, are found with the last bit of the row.
func TestWrongLengths(t *testing.T) {
	whole := append(append([]int{1}, make([]int, 255)...), 1)
	c := newCoder(whole, []int{1})
	checkText(t, dynamicLengths(true, whole, []int{1})+c.bytes([]byte{0})+c.end(), 9, []byte{0}, api.OK)
	for _, l := range []struct{ symbols, distances []int }{
		{append(slices.Clone(whole), 15), []int{0}},
		{append(slices.Clone(whole), 15), []int{1, 1, 15}},
		{append(append([]int{1, 1}, make([]int, 254)...), 1), []int{1}},
		{append(append([]int{1, 1}, make([]int, 254)...), 15), []int{1}},
		{append([]int{1, 1}, make([]int, 255)...), []int{1}},
		{append([]int{1, 0}, make([]int, 255)...), []int{1}},
		{append([]int{1, 1}, make([]int, 284)...), []int{1}},
		{append(make([]int, 257), 1), []int{1}},
		{make([]int, 286), make([]int, 30)},
		{whole, []int{1, 1, 15}},
		{whole, []int{1, 1, 1}},
		{whole, slices.Repeat([]int{4}, 17)},
		{append([]int{1}, make([]int, 256)...), []int{1, 1, 15}},
	} {
		checkEnd(t, dynamicLengths(true, l.symbols, l.distances), 9, api.ErrForm)
	}
	// Just whole, and not whole.
	for _, distances := range [][]int{{1, 1}, {15}, {1, 2, 3, 4, 5, 6, 7, 8, 9, 10, 11, 12, 13, 14, 15, 15}, slices.Repeat([]int{4}, 16)} {
		checkText(t, dynamicLengths(true, whole, distances)+"001", 2, []byte{0, 0}, api.OK)
	}
}

// P5.2: a code that there is not is wrong with the first bit that no code begins with; if no distance has a code that is so at once, and only if one is asked for.
func TestNoCodes(t *testing.T) {
	c := fixedCoder()
	checkEnd(t, head(true, 1)+c.bytes([]byte("a"))+c.length(3)+"1111", 9, api.ErrForm)
	checkText(t, head(true, 1)+c.bytes([]byte("a"))+c.length(3)+"11110", 9, nil, api.ErrForm)
	checkText(t, head(true, 1)+c.bytes([]byte("a"))+c.length(3)+"11111", 9, nil, api.ErrForm)
	// 0, 256, 257 and 265 have codes of two bits; the distances as they come.
	symbols := make([]int, 266)
	symbols[0], symbols[256], symbols[257], symbols[265] = 2, 2, 2, 2
	for _, l := range []struct {
		distances []int
		wrong     string // the shortest bits that no code begins with
	}{{[]int{0}, ""}, {make([]int, 30), ""}, {[]int{1}, "1"}, {[]int{0, 1}, "1"}, {[]int{2}, "1"}, {[]int{2}, "01"}, {[]int{1, 3}, "11"}, {[]int{1, 3}, "101"}, {[]int{15}, "1"}, {[]int{15}, "000000000000001"}} {
		begin := dynamicLengths(true, symbols, l.distances)
		checkText(t, begin+"00"+"00"+"01", 2, []byte{0, 0}, api.OK)
		checkEnd(t, begin+"00"+"10"+l.wrong, 9, api.ErrForm)
		// The extra bit of the length is read ahead of it.
		checkEnd(t, begin+"00"+"11"+"1"+l.wrong, 9, api.ErrForm)
	}
	// One symbol has a code.
	symbols = append(make([]int, 256), 1)
	checkText(t, dynamicLengths(true, symbols, []int{0})+"0", 0, nil, api.OK)
	checkEnd(t, dynamicLengths(true, symbols, []int{0})+"1", 0, api.ErrForm)
}

// someStreams is good streams of all kinds, with what they tell.
func someStreams() (texts []string, tell [][]byte) {
	symbols, distances := skewed()
	fixed, own := fixedCoder(), newCoder(symbols, distances)
	add := func(text, told string) {
		texts, tell = append(texts, text), append(tell, []byte(told))
	}
	add(head(true, 1)+fixed.end(), "")
	add(storedBlock("", true, nil), "")
	add(storedBlock("", true, []byte("abc")), "abc")
	add(head(true, 1)+fixed.bytes([]byte("ab\xff"))+fixed.piece(13, 3)+fixed.piece(3, 16)+fixed.end(), strings.Repeat("ab\xff", 5)+"aab\xff")
	add(dynamicLengths(true, symbols, distances)+own.bytes([]byte("wayfarer"))+own.piece(35, 7)+own.end(), "wayfarer"+strings.Repeat("ayfarer", 5))
	add(storedBlock(dynamicLengths(false, symbols, distances)+own.bytes([]byte("x"))+own.end(), false, []byte("yz"))+head(true, 1)+fixed.piece(4, 3)+fixed.end(), "xyzxyzx")
	return texts, tell
}

// P5.2: a stream that ends at each of its bits is too short, wherever it begins within a byte.
func TestEnds(t *testing.T) {
	texts, tell := someStreams()
	for i, text := range texts {
		checkText(t, text, len(tell[i]), tell[i], api.OK)
		for n := range text {
			checkText(t, text[:n/8*8], 65536, nil, api.ErrShort)
			if strings.HasPrefix(text, head(true, 0)) || i == 5 {
				// A stored block has another form where it begins elsewhere within a byte.
				continue
			}
			shift := nothing((8 - n%8) % 8)
			check(t, packed(shift+text, 0), 65536, tell[i], (len(shift+text)+7)/8, api.OK)
			check(t, packed(shift+text[:n], 0), 65536, nil, 0, api.ErrShort)
		}
	}
}

// P5.3: what lies behind a stream changes nothing, nor do the bits left in its last byte, nor a greater bound.
func TestBehind(t *testing.T) {
	texts, tell := someStreams()
	for i, text := range texts {
		for _, fill := range []byte{0, 1} {
			b := packed(text, fill)
			for _, behind := range [][]byte{nil, {0}, {255}, {7}, {3, 0}, b, scrambled(100, 256, 5)} {
				for _, more := range []int{0, 1, 2, 1000, 65536 - len(tell[i])} {
					check(t, slices.Concat(b, behind), len(tell[i])+more, tell[i], len(b), api.OK)
				}
			}
		}
	}
}

// P5.2: two answers share no memory, and a call keeps nothing of the ones ahead of it.
func TestCallsApart(t *testing.T) {
	texts, tell := someStreams()
	var outs [][]byte
	for range 2 {
		for _, text := range texts {
			out, _, e := Inflate(packed(text, 0), 65536)
			if e != api.OK {
				t.Fatal(e)
			}
			outs = append(outs, out)
		}
		check(t, []byte{7}, 9, nil, 0, api.ErrForm)
	}
	for i, out := range outs {
		if !bytes.Equal(out, tell[i%len(tell)]) {
			t.Fatalf("answer %d was changed by one behind it: %q", i, out)
		}
		for k := range out[:cap(out)] {
			out[:cap(out)][k] = 255
		}
	}
}

// P5.2 and P5.3: streams with bits turned, and bytes with no order, are read as the document's words read them, and whatever comes out does so with a greater bound too.
func TestSlowly(t *testing.T) {
	met := map[api.Errno]int{}
	texts, _ := someStreams()
	for i, text := range texts {
		for at := range text {
			turned := text[:at] + string('0'+'1'-text[at]) + text[at+1:]
			for _, most := range []int{5, 65536} {
				met[checkSlow(t, packed(turned, 0), most)]++
			}
		}
		for seed := range uint64(60) {
			b := packed(text, 1)
			for k, x := range scrambled(len(b), 24, seed+uint64(1000*i)) {
				if x < 8 {
					b[k] ^= 1 << x
				}
			}
			met[checkSlow(t, b, 100)]++
		}
	}
	for seed := range uint64(4000) {
		b := scrambled(int(seed%90), 256, seed)
		if len(b) > 0 && seed%3 != 0 {
			b[0] = b[0]&^6 | byte(seed%3)<<1
		}
		most := int(seed % 50)
		e := checkSlow(t, b, most)
		met[e]++
		if e == api.OK {
			checkSlow(t, b, 65536)
		}
	}
	for _, e := range []api.Errno{api.OK, api.ErrShort, api.ErrForm, api.ErrLimit} {
		if met[e] < 20 {
			t.Errorf("%v was met %d times only", e, met[e])
		}
	}
}

// foreign is bytes as the library's writer makes them smaller.
func foreign(t testing.TB, plain []byte, level int) []byte {
	t.Helper()
	var w bytes.Buffer
	f, err := flate.NewWriter(&w, level)
	if err != nil {
		t.Fatal(err)
	}
	f.Write(plain)
	f.Close()
	return w.Bytes()
}

// P5.2: what another program made smaller is brought back.
func TestForeign(t *testing.T) {
	plains := [][]byte{nil, []byte("a"), bytes.Repeat([]byte("a"), 65536), scrambled(65536, 256, 1), scrambled(65536, 3, 2), []byte(strings.Repeat("a roaming terminal over sealed datagrams, ", 1500))}
	for i, plain := range plains {
		for level := -2; level <= 9; level++ {
			b := foreign(t, plain, level)
			check(t, b, 65536, plain, len(b), api.OK)
			check(t, slices.Concat(b, b), len(plain), plain, len(b), api.OK)
			if len(plain) > 0 {
				check(t, b, len(plain)-1, nil, 0, api.ErrLimit)
			}
			for cut := 0; cut < len(b); cut += 1 + len(b)/20 {
				check(t, b[:cut], 65536, nil, 0, api.ErrShort)
			}
			if i < 2 {
				checkSlow(t, b, 65536)
			}
		}
	}
}

// P5.2: a long stream of many short blocks ends soon.
func TestManyBlocks(t *testing.T) {
	symbols := append(make([]int, 256), 1)
	fixed := strings.Repeat(head(false, 1)+"0000000", 100000)
	dynamic := strings.Repeat(dynamicLengths(false, symbols, []int{0})+"0", 300)
	last := head(true, 1) + "0000000"
	checkText(t, fixed+last, 0, nil, api.OK)
	checkText(t, dynamic+last, 0, nil, api.OK)
	checkText(t, fixed+dynamic+last, 0, nil, api.OK)
}

func BenchmarkInflate(b *testing.B) {
	for _, c := range []struct {
		name  string
		plain []byte
	}{{"bytes", scrambled(65536, 100, 1)}, {"pieces", []byte(strings.Repeat("a roaming terminal over sealed datagrams, ", 1500))}} {
		text := foreign(b, c.plain, 9)
		b.Run(c.name, func(b *testing.B) {
			b.SetBytes(int64(len(c.plain)))
			for range b.N {
				Inflate(text, 65536)
			}
		})
	}
}
