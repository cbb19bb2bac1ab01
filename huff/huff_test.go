package huff

import (
	"math"
	"slices"
	"testing"

	"wayfarer/api"
	"wayfarer/bits"
)

// of is so many bits of a number.
func of(value uint64, size int) api.Bits { return api.Bits{Value: value, Size: size} }

// scrambled is so many numbers from 0 to below a bound with no order to be seen, the same ones for the same seed.
func scrambled(count, below int, seed uint64) []int {
	list := make([]int, count)
	for i := range list {
		seed = seed*6364136223846793005 + 1442695040888963407
		n := (seed ^ seed>>29) * 0xbf58476d1ce4e5b9
		list[i] = int((n ^ n>>32) % uint64(below))
	}
	return list
}

// scrambledBytes is so many bytes with no order to be seen.
func scrambledBytes(count int, seed uint64) []byte {
	b := make([]byte, count)
	for i, n := range scrambled(count, 256, seed) {
		b[i] = byte(n)
	}
	return b
}

// scrambledLengths is lengths that may be, of so many symbols; some have no code.
func scrambledLengths(count int, seed uint64) []int {
	lengths := scrambled(count, 16, seed)
	for i, weight := 0, 0; i < count; i++ {
		if lengths[i] == 0 {
			continue
		}
		for lengths[i] < 15 && weight+1<<(15-lengths[i]) > 32768-count {
			lengths[i]++
		}
		weight += 1 << (15 - lengths[i])
	}
	return lengths
}

// every is each list of so many numbers from 0 to a greatest one.
func every(count, most int) [][]int {
	lists := [][]int{{}}
	for range count {
		var longer [][]int
		for _, list := range lists {
			for n := range most + 1 {
				longer = append(longer, append(slices.Clone(list), n))
			}
		}
		lists = longer
	}
	return lists
}

// someLengths is lengths of all kinds, all of which may be.
func someLengths() [][]int {
	lists := [][]int{
		nil, {}, {0}, {0, 0, 0}, {1}, {0, 1}, {1, 1}, {1, 2, 2}, {2, 0, 1}, {2}, {2, 2, 2}, {15}, {0, 0, 15, 0}, {1, 15}, {15, 1},
		{3, 3, 3, 3, 3, 2, 4, 4}, {7, 7, 7}, {5, 1, 9, 3}, {2, 4, 4, 2, 4},
		{1, 2, 3, 4, 5, 6, 7, 8, 9, 10, 11, 12, 13, 14, 15, 15},
		{15, 15, 14, 13, 12, 11, 10, 9, 8, 7, 6, 5, 4, 3, 2, 1},
		{1, 2, 3, 4, 5, 6, 7, 8, 9, 10, 11, 12, 13, 14, 15},
		slices.Repeat([]int{9}, 512), slices.Repeat([]int{15}, 512), slices.Repeat([]int{8}, 256), slices.Repeat([]int{0, 10}, 256), make([]int, 512),
		slices.Concat(slices.Repeat([]int{8}, 144), slices.Repeat([]int{9}, 112), slices.Repeat([]int{7}, 24), slices.Repeat([]int{8}, 8)),
	}
	for seed := range uint64(40) {
		lists = append(lists, scrambledLengths(1+int(seed)*3, seed))
	}
	lists = append(lists, scrambledLengths(511, 77), scrambledLengths(512, 78))
	return lists
}

// isWhole is whether each stream begins with a code.
func isWhole(lengths []int) bool { return slowWeight(lengths) == 32768 }

// checkWeight holds Weight to an answer.
func checkWeight(t *testing.T, lengths []int, want int, wantE api.Errno) {
	t.Helper()
	if n, e := Weight(lengths); n != want || e != wantE {
		t.Errorf("Weight(%.80v) = %d, %v, want %d, %v", lengths, n, e, want, wantE)
	}
}

// checkCodes holds Codes to an answer.
func checkCodes(t *testing.T, lengths []int, want []api.Bits, wantE api.Errno) {
	t.Helper()
	if l, e := Codes(lengths); !slices.Equal(l, want) || e != wantE {
		t.Errorf("Codes(%.80v) = %.200v, %v, want %.200v, %v", lengths, l, e, want, wantE)
	}
}

// checkCost holds Cost to an answer.
func checkCost(t *testing.T, counts, lengths []int, want int, wantE api.Errno) {
	t.Helper()
	if n, e := Cost(counts, lengths); n != want || e != wantE {
		t.Errorf("Cost(%.80v, %.80v) = %d, %v, want %d, %v", counts, lengths, n, e, want, wantE)
	}
}

// checkSymbol holds Symbol to an answer.
func checkSymbol(t *testing.T, lengths []int, b []byte, at, want, wantSize int, wantE api.Errno) {
	t.Helper()
	if s, n, e := Symbol(lengths, b, at); s != want || n != wantSize || e != wantE {
		t.Errorf("Symbol(%.80v, %.40x, %d) = %d, %d, %v, want %d, %d, %v", lengths, b, at, s, n, e, want, wantSize, wantE)
	}
}

// refuseLengths holds Lengths to an error, beside nothing.
func refuseLengths(t *testing.T, counts []int, most int, want api.Errno) {
	t.Helper()
	if l, e := Lengths(counts, most); len(l) != 0 || e != want {
		t.Errorf("Lengths(%.80v, %d) = %.80v, %v, want %v", counts, most, l, e, want)
	}
}

// checkLengths holds Lengths to all that the document says but the least cost, and answers the cost.
func checkLengths(t *testing.T, counts []int, most int) int {
	t.Helper()
	lengths, e := Lengths(counts, most)
	if e != api.OK || len(lengths) != len(counts) {
		t.Fatalf("Lengths(%.80v, %d) = %.80v, %v", counts, most, lengths, e)
	}
	if slowWeight(lengths) > 32768 {
		t.Fatalf("Lengths(%.80v, %d) = %.80v, which may not be", counts, most, lengths)
	}
	cost, come, last := 0, 0, 0
	for i, count := range counts {
		if lengths[i] < 0 || lengths[i] > most || (lengths[i] == 0) != (count == 0) {
			t.Fatalf("Lengths(%.80v, %d) = %.80v: the length of %d", counts, most, lengths, i)
		}
		cost += count * lengths[i]
		if count > 0 {
			come++
			last = i
		}
	}
	if come == 1 && lengths[last] != 1 {
		t.Fatalf("Lengths(%.80v, %d) = %.80v, and just %d comes", counts, most, lengths, last)
	}
	again, e := Lengths(slices.Clone(counts), most)
	if e != api.OK || !slices.Equal(again, lengths) {
		t.Fatalf("Lengths(%.80v, %d) = %.80v, and then %.80v, %v", counts, most, lengths, again, e)
	}
	checkCost(t, counts, lengths, cost, api.OK)
	return cost
}

// P4.1, P4.2 and P4.3: the examples of the chapter.
func TestExamples(t *testing.T) {
	checkCodes(t, []int{1, 2, 2}, []api.Bits{of(0, 1), of(1, 2), of(3, 2)}, api.OK)
	checkWeight(t, []int{1, 2, 2}, 32768, api.OK)
	checkCodes(t, []int{1, 1, 1}, nil, api.ErrArg)
	l, e := Lengths([]int{5, 1, 1}, 15)
	if e != api.OK {
		t.Errorf("Lengths(5 1 1, 15): %v", e)
	}
	checkCost(t, []int{5, 1, 1}, l, 9, api.OK)
	if l, e := Lengths([]int{0, 3}, 15); e != api.OK || !slices.Equal(l, []int{0, 1}) {
		t.Errorf("Lengths(0 3, 15) = %d, %v", l, e)
	}
	refuseLengths(t, []int{1, 1, 1}, 1, api.ErrLimit)
	checkSymbol(t, []int{1, 2, 2}, []byte{1}, 0, 1, 2, api.OK)
	checkSymbol(t, []int{1, 2, 2}, nil, 0, 0, 0, api.ErrShort)
	checkSymbol(t, []int{2}, []byte{1}, 0, 0, 0, api.ErrForm)
	checkSymbol(t, []int{0}, []byte{1}, 0, 0, 0, api.ErrForm)
}

// P4.1: the weight is the document's sum, above 2^15 too.
func TestWeight(t *testing.T) {
	for length := 1; length <= 15; length++ {
		checkWeight(t, []int{length}, 1<<(15-length), api.OK)
		checkWeight(t, []int{0, length, 0, length, length}, 3<<(15-length), api.OK)
	}
	checkWeight(t, nil, 0, api.OK)
	checkWeight(t, []int{}, 0, api.OK)
	checkWeight(t, []int{0}, 0, api.OK)
	checkWeight(t, make([]int, 512), 0, api.OK)
	checkWeight(t, []int{1, 1}, 32768, api.OK)
	checkWeight(t, []int{1, 1, 15}, 32769, api.OK)
	checkWeight(t, []int{1, 1, 1}, 49152, api.OK)
	checkWeight(t, slices.Repeat([]int{1}, 512), 512*16384, api.OK)
	checkWeight(t, slices.Repeat([]int{15}, 512), 512, api.OK)
	for _, lengths := range someLengths() {
		checkWeight(t, lengths, slowWeight(lengths), api.OK)
	}
	for seed := range uint64(50) {
		lengths := scrambled(int(seed)*10, 16, seed)
		checkWeight(t, lengths, slowWeight(lengths), api.OK)
	}
}

// P4.1: codes of one length and of many are those that the document's words make.
func TestCodes(t *testing.T) {
	lists := someLengths()
	for length := 1; length <= 15; length++ {
		for _, count := range []int{1, 2, 3, 5, 100, 511, 512} {
			if count <= 1<<length {
				lists = append(lists, slices.Repeat([]int{length}, count), slices.Repeat([]int{0, length}, count/2))
			}
		}
	}
	for _, lengths := range every(5, 4) {
		if slowWeight(lengths) <= 32768 {
			lists = append(lists, lengths)
		}
	}
	for _, lengths := range lists {
		want := make([]api.Bits, len(lengths))
		for i, code := range slowCodes(lengths) {
			want[i] = slowBits(code)
		}
		checkCodes(t, lengths, want, api.OK)
	}
}

// P4.1: a code with its bits turned is a number; the first one of a length is the last one of the next shorter length there is, and 1, with noughts behind it.
func TestFirstCodes(t *testing.T) {
	lengths := []int{5, 2, 9, 5, 5, 2, 9, 15}
	l, e := Codes(lengths)
	if e != api.OK {
		t.Fatal(e)
	}
	for i, want := range []uint64{0b10000, 0b00, 0b10011<<4 | 0, 0b10001, 0b10010, 0b01, 0b10011<<4 | 1, (0b10011<<4 | 2) << 6} {
		if turned, e := bits.Reverse(l[i]); turned != of(want, lengths[i]) || e != api.OK {
			t.Errorf("the code of %d is %b, want %b", i, turned.Value, want)
		}
	}
}

// P4.1, P4.2 and P4.3: a length of -1, 0, 15 and 16, wherever it stands and however long the list is.
func TestWrongLengths(t *testing.T) {
	for _, c := range []struct {
		length int
		want   api.Errno
	}{{-1, api.ErrArg}, {0, api.OK}, {15, api.OK}, {16, api.ErrArg}, {17, api.ErrArg}, {64, api.ErrArg}, {math.MinInt, api.ErrArg}, {math.MaxInt, api.ErrArg}} {
		for _, count := range []int{1, 2, 512, 513, 600} {
			for _, at := range []int{0, count / 2, count - 1} {
				lengths := make([]int, count)
				lengths[at] = c.length
				want := c.want
				if want == api.OK && count > 512 {
					want = api.ErrLimit
				}
				checkErrors(t, lengths, want, want)
			}
		}
	}
}

// checkErrors holds Weight to an error (or none), and Codes, Cost and Symbol to another.
func checkErrors(t *testing.T, lengths []int, weightE, want api.Errno) {
	t.Helper()
	if n, e := Weight(lengths); e != weightE || e != api.OK && n != 0 {
		t.Errorf("Weight(%.80v) = %d, %v, want %v", lengths, n, e, weightE)
	}
	if l, e := Codes(lengths); e != want || e != api.OK && len(l) != 0 {
		t.Errorf("Codes(%.80v) = %.80v, %v, want %v", lengths, l, e, want)
	}
	if n, e := Cost(make([]int, len(lengths)), lengths); e != want || n != 0 {
		t.Errorf("Cost(noughts, %.80v) = %d, %v, want %v", lengths, n, e, want)
	}
	if want != api.OK {
		checkSymbol(t, lengths, []byte{0, 0}, 0, 0, 0, want)
		checkSymbol(t, lengths, nil, math.MaxInt, 0, 0, want)
	}
}

// P4.1, P4.2 and P4.3: a weight of 2^15 and one above it. Only Weight tells it, the others refuse it.
func TestWrongWeights(t *testing.T) {
	steps := []int{1, 2, 3, 4, 5, 6, 7, 8, 9, 10, 11, 12, 13, 14, 15, 15}
	checkErrors(t, steps, api.OK, api.OK)
	checkErrors(t, append(slices.Clone(steps), 15), api.OK, api.ErrArg)
	checkErrors(t, append([]int{15}, steps...), api.OK, api.ErrArg)
	checkWeight(t, append([]int{15}, steps...), 32769, api.OK)
	for length := 1; length <= 9; length++ {
		just := slices.Repeat([]int{length}, 1<<length)
		checkErrors(t, just, api.OK, api.OK)
		if len(just) < 512 {
			checkErrors(t, append(just, 15), api.OK, api.ErrArg)
			checkErrors(t, append(make([]int, 512-len(just)-1), append(just, length)...), api.OK, api.ErrArg)
		}
	}
	checkErrors(t, append(make([]int, 509), 1, 1, 1), api.OK, api.ErrArg)
	// More than 512 symbols are a limit, unless their weight is above 2^15, too: Weight knows the limit alone.
	checkErrors(t, slices.Repeat([]int{15}, 513), api.ErrLimit, api.ErrLimit)
	checkErrors(t, slices.Repeat([]int{10}, 1024), api.ErrLimit, api.ErrLimit)
	checkErrors(t, slices.Repeat([]int{10}, 1025), api.ErrLimit, api.ErrArg)
	checkErrors(t, append(make([]int, 600), 1, 1, 15), api.ErrLimit, api.ErrArg)
	checkErrors(t, append([]int{1, 1, 15}, make([]int, 600)...), api.ErrLimit, api.ErrArg)
	checkErrors(t, slices.Repeat([]int{1}, 1<<19), api.ErrLimit, api.ErrArg)
	checkErrors(t, append(slices.Repeat([]int{1}, 600), 16), api.ErrArg, api.ErrArg)
	checkErrors(t, slices.Repeat([]int{15}, 32768), api.ErrLimit, api.ErrLimit)
	checkErrors(t, slices.Repeat([]int{15}, 32769), api.ErrLimit, api.ErrArg)
}

// P4.1, P4.2 and P4.3: 512 symbols and 513, with codes and without, and lists that are empty or nil.
func TestHowManySymbols(t *testing.T) {
	for _, length := range []int{0, 9, 10, 15} {
		checkErrors(t, slices.Repeat([]int{length}, 512), api.OK, api.OK)
	}
	for _, length := range []int{0, 10, 15} {
		checkErrors(t, slices.Repeat([]int{length}, 513), api.ErrLimit, api.ErrLimit)
	}
	checkErrors(t, nil, api.OK, api.OK)
	checkErrors(t, []int{}, api.OK, api.OK)
	checkCodes(t, nil, nil, api.OK)
	checkCodes(t, []int{}, nil, api.OK)
	checkCodes(t, []int{0, 0}, []api.Bits{of(0, 0), of(0, 0)}, api.OK)
	checkSymbol(t, nil, nil, 0, 0, 0, api.ErrForm)
	checkSymbol(t, []int{}, []byte{}, 0, 0, 0, api.ErrForm)
	checkCost(t, nil, []int{}, 0, api.OK)
	checkCost(t, []int{}, nil, 0, api.OK)
}

// P4.2: the cost is the sum of count times length, for symbols without a code too, up to the greatest there is.
func TestCost(t *testing.T) {
	checkCost(t, []int{3, 4, 5}, []int{1, 2, 2}, 21, api.OK)
	checkCost(t, []int{3, 4, 5}, []int{1, 0, 2}, 13, api.OK)
	checkCost(t, []int{0, 0, 0}, []int{1, 2, 2}, 0, api.OK)
	checkCost(t, []int{1 << 20}, []int{15}, 15<<20, api.OK)
	checkCost(t, slices.Repeat([]int{1 << 20}, 512), slices.Repeat([]int{15}, 512), 512*15<<20, api.OK)
	for seed := range uint64(100) {
		lengths := scrambledLengths(int(seed)*5, seed)
		counts := scrambled(len(lengths), 1<<20+1, seed+1000)
		want := 0
		for i := range lengths {
			for range lengths[i] {
				want += counts[i]
			}
		}
		checkCost(t, counts, lengths, want, api.OK)
	}
}

// P4.2: Cost refuses counts that may not be and lists of two lengths, ahead of a limit.
func TestWrongCosts(t *testing.T) {
	for _, c := range []struct {
		count int
		want  api.Errno
	}{{-1, api.ErrArg}, {0, api.OK}, {1 << 20, api.OK}, {1<<20 + 1, api.ErrArg}, {math.MinInt, api.ErrArg}, {math.MaxInt, api.ErrArg}} {
		cost := 0
		if c.want == api.OK {
			cost = 2 * c.count
		}
		checkCost(t, []int{0, c.count, 0}, []int{1, 2, 2}, cost, c.want)
		checkCost(t, []int{0, 0, c.count}, []int{1, 2, 2}, cost, c.want)
		if c.want != api.OK {
			checkCost(t, []int{c.count}, []int{0}, 0, c.want)
			checkCost(t, append(make([]int, 512), c.count), make([]int, 513), 0, c.want)
			checkCost(t, append(make([]int, 512), c.count), nil, 0, c.want)
		}
	}
	checkCost(t, []int{1}, nil, 0, api.ErrArg)
	checkCost(t, nil, []int{1}, 0, api.ErrArg)
	checkCost(t, nil, []int{0}, 0, api.ErrArg)
	checkCost(t, []int{0}, nil, 0, api.ErrArg)
	checkCost(t, []int{1, 1, 1}, []int{1, 1}, 0, api.ErrArg)
	checkCost(t, make([]int, 513), make([]int, 512), 0, api.ErrArg)
	checkCost(t, make([]int, 512), make([]int, 513), 0, api.ErrArg)
	checkCost(t, make([]int, 513), make([]int, 514), 0, api.ErrArg)
	checkCost(t, make([]int, 513), make([]int, 513), 0, api.ErrLimit)
	checkCost(t, []int{1}, []int{16}, 0, api.ErrArg)
	checkCost(t, []int{1}, []int{-1}, 0, api.ErrArg)
	checkCost(t, []int{1, 1, 1}, []int{1, 1, 1}, 0, api.ErrArg)
	checkCost(t, []int{1, 1, 1}, []int{1, 1, 15}, 0, api.ErrArg)
}

// P4.3: Symbol reads what the document's words read, at each place of bytes of all kinds.
func TestSymbol(t *testing.T) {
	streams := [][]byte{nil, {}, {0}, {255}, {1}, {128}, {0, 0}, {255, 255}, {254, 127, 255}, scrambledBytes(6, 5), scrambledBytes(4, 9)}
	for _, lengths := range someLengths() {
		codes := slowCodes(lengths)
		for _, b := range streams {
			for at := range 8*len(b) + 3 {
				s, n, e := slowSymbol(codes, slowStream(b, at))
				checkSymbol(t, lengths, b, at, s, n, e)
			}
		}
	}
}

// P4.3: all bits of few are read as the document's words read them, of all lengths of four symbols.
func TestSymbolOfEachBits(t *testing.T) {
	for _, lengths := range every(4, 4) {
		if slowWeight(lengths) > 32768 {
			continue
		}
		codes := slowCodes(lengths)
		for value := range 32 {
			// The bits stand at the end of a byte, so that they end early.
			for _, at := range []int{3, 4, 5, 6, 7, 8} {
				b := []byte{byte(value << 3)}
				s, n, e := slowSymbol(codes, slowStream(b, at))
				checkSymbol(t, lengths, b, at, s, n, e)
			}
		}
	}
}

// P4.3: a place of -1, 0, the last one, one behind it, and the greatest int.
func TestPlaces(t *testing.T) {
	one, two := []int{1, 1}, []int{1, 2, 2}
	b := []byte{2, 128}
	for _, at := range []int{-1, -8, math.MinInt} {
		checkSymbol(t, one, b, at, 0, 0, api.ErrArg)
		checkSymbol(t, nil, nil, at, 0, 0, api.ErrArg)
		checkSymbol(t, make([]int, 513), b, at, 0, 0, api.ErrArg)
		checkSymbol(t, []int{1, 1, 1}, b, at, 0, 0, api.ErrArg)
	}
	checkSymbol(t, one, b, 0, 0, 1, api.OK)
	checkSymbol(t, one, b, 1, 1, 1, api.OK)
	checkSymbol(t, one, b, 15, 1, 1, api.OK)
	checkSymbol(t, two, b, 15, 0, 0, api.ErrShort)
	checkSymbol(t, two, b, 14, 0, 1, api.OK)
	for _, at := range []int{16, 17, 1 << 20, math.MaxInt - 1, math.MaxInt} {
		checkSymbol(t, one, b, at, 0, 0, api.ErrShort)
		checkSymbol(t, []int{15}, b, at, 0, 0, api.ErrShort)
		checkSymbol(t, one, nil, at, 0, 0, api.ErrShort)
		checkSymbol(t, []int{0, 0}, b, at, 0, 0, api.ErrForm)
		checkSymbol(t, nil, b, at, 0, 0, api.ErrForm)
		checkSymbol(t, make([]int, 513), b, at, 0, 0, api.ErrLimit)
	}
}

// P4.3: bits that end early are short while a code begins with them, and have no form as soon as none does.
func TestBitsThatEndEarly(t *testing.T) {
	// The only code is fifteen noughts: noughts are short, and a 1 among them has no form, wherever it stands.
	for size := range 15 {
		lone := []int{0, 15}
		b := make([]byte, 3)
		checkSymbol(t, lone, b, 24-size, 0, 0, api.ErrShort)
		for k := range size {
			c := slices.Clone(b)
			place := 24 - size + k
			c[place/8] |= 1 << (place % 8)
			checkSymbol(t, lone, c, 24-size, 0, 0, api.ErrForm)
		}
	}
	checkSymbol(t, []int{0, 15}, make([]byte, 3), 9, 1, 15, api.OK)
	// The codes are 0 and 10: 11 begins none, 1 may still become one.
	checkSymbol(t, []int{1, 2}, []byte{128}, 7, 0, 0, api.ErrShort)
	checkSymbol(t, []int{1, 2}, []byte{192}, 6, 0, 0, api.ErrForm)
	checkSymbol(t, []int{1, 2}, []byte{64}, 6, 1, 2, api.OK)
	// The codes are 00, 01 and 100: 101 and 11 begin none.
	checkSymbol(t, []int{3, 2, 2}, []byte{128}, 7, 0, 0, api.ErrShort)
	checkSymbol(t, []int{3, 2, 2}, []byte{64}, 6, 0, 0, api.ErrShort)
	checkSymbol(t, []int{3, 2, 2}, []byte{192}, 6, 0, 0, api.ErrForm)
	checkSymbol(t, []int{3, 2, 2}, []byte{160}, 5, 0, 0, api.ErrForm)
	checkSymbol(t, []int{3, 2, 2}, []byte{32}, 5, 0, 3, api.OK)
}

// P4.4: no code begins another one.
func TestNoCodeBeginsAnother(t *testing.T) {
	for _, lengths := range someLengths() {
		l, e := Codes(lengths)
		if e != api.OK {
			t.Fatal(e)
		}
		for i, a := range l {
			for k, b := range l {
				if i != k && a.Size > 0 && a.Size <= b.Size && b.Value%(1<<a.Size) == a.Value {
					t.Fatalf("the codes of %.80v: that of %d begins that of %d", lengths, i, k)
				}
			}
		}
	}
}

// P4.4: what is written with Codes is read by Symbol, symbol by symbol, at each place within a byte.
func TestWrittenAndRead(t *testing.T) {
	for _, lengths := range someLengths() {
		l, e := Codes(lengths)
		if e != api.OK {
			t.Fatal(e)
		}
		for ahead := range 8 {
			row := append([]api.Bits{of(1<<ahead-1, ahead)}, l...)
			b, e := bits.Write(append(row, l...)...)
			if e != api.OK {
				t.Fatal(e)
			}
			at := ahead
			for i := range 2 * len(l) {
				want := i % len(l)
				if lengths[want] == 0 {
					continue
				}
				checkSymbol(t, lengths, b, at, want, lengths[want], api.OK)
				at += lengths[want]
			}
		}
	}
}

// P4.4: whole lengths read every stream that is long enough.
func TestWholeLengths(t *testing.T) {
	for _, lengths := range someLengths() {
		if !isWhole(lengths) {
			continue
		}
		for _, b := range [][]byte{make([]byte, 40), slices.Repeat([]byte{255}, 40), scrambledBytes(40, 1), scrambledBytes(40, 2)} {
			for at := 0; at <= 8*len(b)-15; {
				s, n, e := Symbol(lengths, b, at)
				if e != api.OK || n < 1 || n != lengths[s] {
					t.Fatalf("Symbol(%.80v, %x, %d) = %d, %d, %v", lengths, b, at, s, n, e)
				}
				at += n
			}
		}
	}
}

// Rule 5: what is handed in stays as it is, the room behind its end too, and what is answered shares no memory with it.
func TestNothingShared(t *testing.T) {
	lengths := append(make([]int, 0, 9), 2, 0, 1, 15)
	counts := append(make([]int, 0, 9), 7, 1, 0, 5)
	b := append(make([]byte, 0, 9), 3, 200)
	wasLengths, wasCounts, was := slices.Clone(lengths[:9]), slices.Clone(counts[:9]), slices.Clone(b[:9])
	look := func(what string) {
		t.Helper()
		if !slices.Equal(lengths[:9], wasLengths) || !slices.Equal(counts[:9], wasCounts) || !slices.Equal(b[:9], was) {
			t.Errorf("%s changed what it was handed: %d %d %d", what, lengths[:9], counts[:9], b[:9])
		}
	}
	Weight(lengths)
	look("Weight")
	first, _ := Codes(lengths)
	look("Codes")
	Cost(counts, lengths)
	look("Cost")
	Symbol(lengths, b, 3)
	look("Symbol")
	second, _ := Lengths(counts, 15)
	look("Lengths")
	keptCodes, keptLengths := slices.Clone(first), slices.Clone(second)
	clear(first[:cap(first)])
	clear(second[:cap(second)])
	look("clearing an answer")
	if again, _ := Codes(lengths); !slices.Equal(again, keptCodes) {
		t.Errorf("Codes answers %v behind a change of its answer", again)
	}
	if again, _ := Lengths(counts, 15); !slices.Equal(again, keptLengths) {
		t.Errorf("Lengths answers %v behind a change of its answer", again)
	}
}
