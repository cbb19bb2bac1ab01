package width

import (
	"math"
	"slices"
	"testing"

	"wayfarer/api"
)

// noise is numbers that look like chance and are always the same ones.
type noise uint64

func (n *noise) next() uint64 {
	*n = *n*6364136223846793005 + 1442695040888963407
	return uint64(*n >> 32)
}

// roomy is a list with room behind it that has something, too.
func roomy[T any](l []T, behind ...T) []T {
	return slices.Concat(l, behind)[:len(l)]
}

// checkOf holds Of to a width and to the slow reading, and Text of c alone to what follows.
func checkOf(t *testing.T, c rune, want int) {
	t.Helper()
	if n := Of(c); n != want || slowOf(c) != want {
		t.Errorf("Of(%x) = %d, want %d (or %d)", c, n, want, slowOf(c))
	}
	if n := Text(c); n != max(want, 0) {
		t.Errorf("Text(%x) = %d, want %d", c, n, max(want, 0))
	}
}

// checkIn holds In to an answer and to the slow reading, and what it was handed to staying as it is. What lies in the room behind the end holds every number, so that looking there would be seen.
func checkIn(t *testing.T, l []api.Span, c rune, want bool) {
	t.Helper()
	handed := roomy(l, api.Span{Lo: math.MinInt32, Hi: math.MaxInt32})
	whole := slices.Clone(handed[:len(l)+1])
	if in := In(handed, c); in != want || slowIn(l, c) != want {
		t.Errorf("In(%v, %d) = %v, want %v (or %v)", l, c, in, want, slowIn(l, c))
	}
	if !slices.Equal(handed[:len(l)+1], whole) {
		t.Fatalf("In changed %v", whole)
	}
}

// checkText holds Text to a width and to the slow reading, wherever the text is cut in two, and what it was handed to staying as it is.
func checkText(t *testing.T, l []rune, want int) {
	t.Helper()
	handed := roomy(l, 0x4e2d, 97)
	whole := slices.Clone(handed[:len(l)+2])
	if n := Text(handed...); n != want || slowText(l) != want {
		t.Fatalf("Text(%x) = %d, want %d (or %d)", l, n, want, slowText(l))
	}
	for i := range len(l) + 1 {
		if n := Text(handed[:i]...) + Text(handed[i:]...); n != want {
			t.Fatalf("Text of both parts of %x, cut at %d, is %d, want %d", l, i, n, want)
		}
	}
	if !slices.Equal(handed[:len(l)+2], whole) {
		t.Fatalf("Text changed %x", whole)
	}
}

// P12.1: the examples of the chapter.
func TestExamples(t *testing.T) {
	checkOf(t, 97, 1)
	checkOf(t, 0x4e2d, 2)
	checkOf(t, 0x301, 0)
	checkOf(t, 10, -1)
	checkOf(t, -5, -1)
	checkText(t, []rune{97, 0x4e2d, 0x301, 10}, 3)
	checkIn(t, []api.Span{{Lo: 5, Hi: 9}, {Lo: 1, Hi: 2}}, 2, true)
	checkIn(t, nil, 2, false)
	checkIn(t, []api.Span{}, 2, false)
}

// P12.1: the width at each edge of what has none.
func TestEdgesOfNone(t *testing.T) {
	for _, x := range []struct {
		c     rune
		width int
	}{
		{math.MinInt32, -1}, {math.MinInt32 + 1, -1}, {math.MinInt32 + 97, -1},
		{-1114112, -1}, {-0x4e2d, -1}, {-128, -1}, {-97, -1}, {-32, -1}, {-2, -1}, {-1, -1},
		{0, -1}, {1, -1}, {9, -1}, {27, -1}, {30, -1}, {31, -1}, {32, 1}, {33, 1},
		{125, 1}, {126, 1}, {127, -1}, {128, -1}, {155, -1}, {158, -1}, {159, -1}, {160, 1}, {161, 1},
		{55294, 1}, {55295, 1}, {55296, -1}, {55297, -1}, {56319, -1}, {56320, -1}, {57342, -1}, {57343, -1}, {57344, 1}, {57345, 1},
		{1114110, 1}, {1114111, 1}, {1114112, -1}, {1114113, -1},
		{1<<16 + 97, 1}, {1<<21 + 97, -1}, {1<<24 + 97, -1}, {1<<24 + 0x4e2d, -1}, {1<<24 + 0x301, -1}, {1 << 30, -1},
		{math.MaxInt32 - 1, -1}, {math.MaxInt32, -1},
	} {
		checkOf(t, x.c, x.width)
	}
}

// P12.1: both ends of each span of both tables, its midst, one ahead and one behind it.
func TestEdgesOfSpans(t *testing.T) {
	wide, zero := slowTable(slowWide), slowTable(slowZero)
	for _, s := range zero {
		checkOf(t, s.Lo, 0)
		checkOf(t, s.Lo+(s.Hi-s.Lo)/2, 0)
		checkOf(t, s.Hi, 0)
		// No span of this table touches another one.
		for _, c := range []rune{s.Lo - 1, s.Hi + 1} {
			if slowIn(wide, c) {
				checkOf(t, c, 2)
			} else {
				checkOf(t, c, 1)
			}
		}
	}
	for _, s := range wide {
		checkOf(t, s.Lo, 2)
		checkOf(t, s.Hi, 2)
		for _, c := range []rune{s.Lo - 1, s.Hi + 1} {
			switch {
			case slowIn(wide, c):
				checkOf(t, c, 2)
			case slowIn(zero, c):
				checkOf(t, c, 0)
			default:
				checkOf(t, c, 1)
			}
		}
	}
}

// P12.1: what touches something else, by hand.
func TestNeighbours(t *testing.T) {
	for _, x := range []struct {
		c     rune
		width int
	}{
		{0x2ff, 1}, {0x300, 0}, {0x36f, 0}, {0x370, 1},
		{0x5bd, 0}, {0x5be, 1}, {0x5bf, 0}, {0x5c0, 1}, {0x5c1, 0}, {0x5c2, 0}, {0x5c3, 1},
		{0x93b, 1}, {0x93c, 0}, {0x93d, 1}, {0x948, 0}, {0x949, 1}, {0x94c, 1}, {0x94d, 0}, {0x94e, 1},
		{0xe30, 1}, {0xe31, 0}, {0xe32, 1}, {0xe33, 1}, {0xe34, 0},
		{0x10ff, 1}, {0x1100, 2}, {0x115f, 2}, {0x1160, 1},
		{0x200a, 1}, {0x200b, 0}, {0x200f, 0}, {0x2010, 1},
		{0x26a0, 1}, {0x26a1, 2}, {0x26a2, 1},
		{0x2e7f, 1}, {0x2e80, 2}, {0x303e, 2}, {0x303f, 1}, {0x3040, 1}, {0x3041, 2},
		{0x33ff, 2}, {0x3400, 2}, {0x4dbf, 2}, {0x4dc0, 1}, {0x4dff, 1}, {0x4e00, 2},
		{0x9fff, 2}, {0xa000, 2}, {0xa4cf, 2}, {0xa4d0, 1}, {0xd7a3, 2}, {0xd7a4, 1},
		{0xfdff, 1}, {0xfe00, 0}, {0xfe0f, 0}, {0xfe10, 1}, {0xfe1f, 1}, {0xfe20, 0}, {0xfe2f, 0}, {0xfe30, 2}, {0xfe6f, 2}, {0xfe70, 1},
		{0xfefe, 1}, {0xfeff, 0}, {0xff00, 1}, {0xff01, 2},
		{0x1f43e, 2}, {0x1f43f, 1}, {0x1f440, 2}, {0x1f441, 1}, {0x1f442, 2},
		{0x1f600, 2}, {0x1f64f, 2}, {0x1f650, 1},
		{0x1ffff, 1}, {0x20000, 2}, {0x2fffd, 2}, {0x2fffe, 1}, {0x2ffff, 1}, {0x30000, 2}, {0x3fffd, 2}, {0x3fffe, 1},
		{0xe00ff, 1}, {0xe0100, 0}, {0xe01ef, 0}, {0xe01f0, 1},
	} {
		checkOf(t, x.c, x.width)
	}
}

// P12.1: what is in both tables takes no column, as zero goes ahead of wide.
func TestInBothTables(t *testing.T) {
	both := []rune{0x302a, 0x302b, 0x302c, 0x302d, 0x3099, 0x309a}
	wide, zero := Tables()
	for _, c := range both {
		if !In(wide, c) || !In(zero, c) {
			t.Errorf("%x is not in both tables", c)
		}
		checkOf(t, c, 0)
	}
	for _, c := range []rune{0x3029, 0x302e, 0x3098, 0x309b} {
		checkOf(t, c, 2)
	}
	count := 0
	for c := range rune(slowEnd) {
		if In(wide, c) && In(zero, c) {
			count++
		}
	}
	if count != len(both) {
		t.Errorf("%d numbers are in both tables, want %d", count, len(both))
	}
}

// P12.1: what is in neither table takes one column, if it has a width.
func TestInNoTable(t *testing.T) {
	wide, zero := Tables()
	for _, c := range []rune{32, 'a', '~', 160, 233, 0x2ff, 0x3b1, 0x416, 0x20ac, 0x2500, 0x2fffe, 0xe000, 0xfffd, 0xffff, 0x10000, 0x1f321, 0xe0001, 0x10ffff} {
		if In(wide, c) || In(zero, c) {
			t.Errorf("%x is in a table", c)
		}
		checkOf(t, c, 1)
	}
}

// P12.1: all numbers, and far beyond them.
func TestAllNumbers(t *testing.T) {
	counts := map[int]int{}
	for c := rune(-70000); c < slowEnd+70000; c++ {
		if n := Of(c); n != slowOf(c) {
			t.Fatalf("Of(%x) = %d, want %d", c, n, slowOf(c))
		}
		if c >= 0 && c < slowEnd {
			counts[Of(c)]++
		}
	}
	// So many numbers the chapter's spans have together; six of the wide ones are in both tables.
	for width, want := range map[int]int{-1: 32 + 33 + 2048, 0: 713, 2: 174045 - 6} {
		if counts[width] != want {
			t.Errorf("%d numbers have the width %d, want %d", counts[width], width, want)
		}
	}
	n := noise(12)
	for range 200000 {
		if c := rune(uint32(n.next())); Of(c) != slowOf(c) {
			t.Fatalf("Of(%x) = %d, want %d", c, Of(c), slowOf(c))
		}
	}
}

// P12.1, P12.2: the tables are the chapter's, span by span.
func TestTables(t *testing.T) {
	wide, zero := Tables()
	checkTable(t, wide, slowTable(slowWide), 37)
	checkTable(t, zero, slowTable(slowZero), 26)
	for _, x := range []struct{ is, want api.Span }{
		{wide[0], api.Span{Lo: 4352, Hi: 4447}},
		{wide[7], api.Span{Lo: 9889, Hi: 9889}},
		{wide[len(wide)-1], api.Span{Lo: 196608, Hi: 262141}},
		{zero[0], api.Span{Lo: 768, Hi: 879}},
		{zero[len(zero)-1], api.Span{Lo: 917760, Hi: 917999}},
	} {
		if x.is != x.want {
			t.Errorf("a span is %v, want %v", x.is, x.want)
		}
	}
	if least := min(wide[0].Lo, zero[0].Lo); least != firstListed {
		t.Errorf("the least number of the tables is %x", least)
	}
}

// checkTable holds a table to spans, and to rising without an empty one.
func checkTable(t *testing.T, l, want []api.Span, size int) {
	t.Helper()
	if len(l) != size || len(want) != size {
		t.Fatalf("a table has %d spans, want %d (or %d)", len(l), size, len(want))
	}
	for i, s := range l {
		if s != want[i] {
			t.Errorf("the span %d is %x-%x, want %x-%x", i, s.Lo, s.Hi, want[i].Lo, want[i].Hi)
		}
		if s.Lo > s.Hi {
			t.Errorf("the span %d, %x-%x, is empty", i, s.Lo, s.Hi)
		}
		if i > 0 && s.Lo <= l[i-1].Hi {
			t.Errorf("the span %d, %x-%x, does not begin behind %x", i, s.Lo, s.Hi, l[i-1].Hi)
		}
	}
}

// spoil changes all of a list, what is in the room behind the end too.
func spoil(l []api.Span) {
	for i := range l[:cap(l)] {
		l[:cap(l)][i] = api.Span{Lo: 32, Hi: 126}
	}
}

// P12.1: no two answers of Tables, and no two lists of one, share memory; nor does Of go by what was answered.
func TestTablesShareNothing(t *testing.T) {
	wide, zero := Tables()
	otherWide, otherZero := Tables()
	spoil(wide)
	checkTable(t, zero, slowTable(slowZero), 26)
	spoil(zero)
	checkTable(t, otherWide, slowTable(slowWide), 37)
	checkTable(t, otherZero, slowTable(slowZero), 26)
	spoil(otherZero)
	checkTable(t, otherWide, slowTable(slowWide), 37)
	laterWide, laterZero := Tables()
	checkTable(t, laterWide, slowTable(slowWide), 37)
	checkTable(t, laterZero, slowTable(slowZero), 26)
	checkOf(t, 'a', 1)
	checkOf(t, 0x1100, 2)
	checkOf(t, 0x300, 0)
	// What is put behind one list does not come into another one.
	wide, zero = Tables()
	_ = append(wide, api.Span{Lo: 1, Hi: 2})
	checkTable(t, zero, slowTable(slowZero), 26)
	_ = append(zero, api.Span{Lo: 1, Hi: 2})
	checkTable(t, wide, slowTable(slowWide), 37)
}

// P12.1: numbers below, within, between and above spans, by hand.
func TestIn(t *testing.T) {
	const least, greatest = math.MinInt32, math.MaxInt32
	for _, x := range []struct {
		l       []api.Span
		in, out []rune
	}{
		{nil, nil, []rune{least, -1, 0, 1, 97, greatest}},
		{[]api.Span{{}}, []rune{0}, []rune{least, -1, 1, greatest}},
		{[]api.Span{{Lo: 5, Hi: 5}}, []rune{5}, []rune{least, -5, 4, 6, greatest}},
		{[]api.Span{{Lo: 5, Hi: 9}}, []rune{5, 6, 7, 8, 9}, []rune{least, -6, 0, 4, 10, greatest}},
		{[]api.Span{{Lo: -9, Hi: -5}}, []rune{-9, -7, -5}, []rune{least, -10, -4, 0, 7, greatest}},
		{[]api.Span{{Lo: -2, Hi: 2}}, []rune{-2, -1, 0, 1, 2}, []rune{least, -3, 3, greatest}},
		// Rising, falling and in no order.
		{[]api.Span{{Lo: 1, Hi: 2}, {Lo: 5, Hi: 9}, {Lo: 20, Hi: 30}}, []rune{1, 2, 5, 7, 9, 20, 25, 30}, []rune{0, 3, 4, 10, 19, 31}},
		{[]api.Span{{Lo: 20, Hi: 30}, {Lo: 5, Hi: 9}, {Lo: 1, Hi: 2}}, []rune{1, 2, 5, 7, 9, 20, 25, 30}, []rune{0, 3, 4, 10, 19, 31}},
		{[]api.Span{{Lo: 5, Hi: 9}, {Lo: 20, Hi: 30}, {Lo: 1, Hi: 2}}, []rune{1, 2, 5, 7, 9, 20, 25, 30}, []rune{0, 3, 4, 10, 19, 31}},
		// One over another, one within another, the same twice, one that touches another.
		{[]api.Span{{Lo: 1, Hi: 6}, {Lo: 4, Hi: 9}}, []rune{1, 3, 4, 6, 7, 9}, []rune{0, 10}},
		{[]api.Span{{Lo: 4, Hi: 9}, {Lo: 1, Hi: 6}}, []rune{1, 3, 4, 6, 7, 9}, []rune{0, 10}},
		{[]api.Span{{Lo: 4, Hi: 5}, {Lo: 1, Hi: 9}}, []rune{1, 4, 5, 6, 9}, []rune{0, 10}},
		{[]api.Span{{Lo: 1, Hi: 9}, {Lo: 4, Hi: 5}}, []rune{1, 4, 5, 6, 9}, []rune{0, 10}},
		{[]api.Span{{Lo: 3, Hi: 4}, {Lo: 3, Hi: 4}}, []rune{3, 4}, []rune{2, 5}},
		{[]api.Span{{Lo: 1, Hi: 2}, {Lo: 3, Hi: 4}}, []rune{1, 2, 3, 4}, []rune{0, 5}},
		// Lo above Hi holds nothing and hides nothing.
		{[]api.Span{{Lo: 7, Hi: 3}}, nil, []rune{2, 3, 4, 5, 6, 7, 8}},
		{[]api.Span{{Lo: 4, Hi: 3}}, nil, []rune{2, 3, 4, 5}},
		{[]api.Span{{Lo: 7, Hi: 3}, {Lo: 4, Hi: 5}}, []rune{4, 5}, []rune{2, 3, 6, 7, 8}},
		{[]api.Span{{Lo: 4, Hi: 5}, {Lo: 7, Hi: 3}}, []rune{4, 5}, []rune{2, 3, 6, 7, 8}},
		{[]api.Span{{Lo: greatest, Hi: least}}, nil, []rune{least, least + 1, -1, 0, 1, greatest - 1, greatest}},
		// The least and the greatest numbers.
		{[]api.Span{{Lo: least, Hi: greatest}}, []rune{least, least + 1, -1, 0, 1, 97, greatest - 1, greatest}, nil},
		{[]api.Span{{Lo: least, Hi: least}}, []rune{least}, []rune{least + 1, 0, greatest}},
		{[]api.Span{{Lo: greatest, Hi: greatest}}, []rune{greatest}, []rune{greatest - 1, 0, least}},
		{[]api.Span{{Lo: greatest - 1, Hi: greatest}, {Lo: least, Hi: least + 1}}, []rune{least, least + 1, greatest - 1, greatest}, []rune{least + 2, -1, 0, 1, greatest - 2}},
		{[]api.Span{{Lo: least, Hi: -1}, {Lo: 1, Hi: greatest}}, []rune{least, -1, 1, greatest}, []rune{0}},
		{[]api.Span{{Lo: 0, Hi: greatest}}, []rune{0, 1, greatest}, []rune{-1, least}},
	} {
		for _, c := range x.in {
			checkIn(t, x.l, c, true)
		}
		for _, c := range x.out {
			checkIn(t, x.l, c, false)
		}
	}
}

// P12.1: all rows of up to three spans of a few numbers.
func TestInAllRows(t *testing.T) {
	var spans []api.Span
	for lo := rune(-1); lo <= 3; lo++ {
		for hi := rune(-1); hi <= 3; hi++ {
			spans = append(spans, api.Span{Lo: lo, Hi: hi})
		}
	}
	rows := [][]api.Span{nil}
	for i := 0; i < len(rows); i++ {
		painted := [7]bool{}
		for _, s := range rows[i] {
			for c := s.Lo; c <= s.Hi; c++ {
				painted[c+2] = true
			}
		}
		for place, want := range painted {
			checkIn(t, rows[i], rune(place)-2, want)
		}
		if len(rows[i]) < 3 {
			for _, s := range spans {
				rows = append(rows, slices.Concat(rows[i], []api.Span{s}))
			}
		}
	}
	if len(rows) != 1+25+25*25+25*25*25 {
		t.Errorf("%d rows", len(rows))
	}
}

// P12.1: spans and numbers that look like chance.
func TestInNoise(t *testing.T) {
	n := noise(5)
	number := func() rune {
		return rune(int32(uint32(n.next()))) >> (n.next() % 32)
	}
	for range 2000 {
		l := make([]api.Span, n.next()%60)
		for i := range l {
			l[i] = api.Span{Lo: number(), Hi: number()}
		}
		for range 5 {
			c := number()
			checkIn(t, l, c, slowIn(l, c))
		}
		for _, s := range l {
			checkIn(t, l, s.Lo, slowIn(l, s.Lo))
			checkIn(t, l, s.Hi, slowIn(l, s.Hi))
		}
	}
}

// P12.1: In goes through the tables as Of does.
func TestInTables(t *testing.T) {
	wide, zero := Tables()
	for c := rune(-300); c < 0x40100; c++ {
		if In(wide, c) != slowIn(wide, c) || In(zero, c) != slowIn(zero, c) {
			t.Fatalf("In of %x is not the slow reading's", c)
		}
		if Of(c) == 0 != In(zero, c) {
			t.Fatalf("Of(%x) = %d", c, Of(c))
		}
		if Of(c) == 2 != (In(wide, c) && !In(zero, c)) {
			t.Fatalf("Of(%x) = %d", c, Of(c))
		}
	}
}

// P12.1: texts by hand; what has no width counts nothing, and takes nothing away.
func TestText(t *testing.T) {
	if Text() != 0 || Text(nil...) != 0 || Text([]rune{}...) != 0 {
		t.Error("no text has a width")
	}
	for _, x := range []struct {
		l     []rune
		width int
	}{
		{nil, 0},
		{[]rune{10}, 0}, {[]rune{-5}, 0}, {[]rune{55296}, 0}, {[]rune{1114112}, 0}, {[]rune{math.MinInt32}, 0}, {[]rune{math.MaxInt32}, 0},
		{[]rune{0x301}, 0}, {[]rune{0x302a}, 0}, {[]rune{97}, 1}, {[]rune{0x4e2d}, 2}, {[]rune{0x1f600}, 2},
		{[]rune{10, 10, 10}, 0}, {[]rune{0x301, 0x301}, 0}, {[]rune{97, 97, 97}, 3}, {[]rune{0x4e2d, 0x4e2d}, 4},
		{[]rune{97, 10}, 1}, {[]rune{10, 97}, 1}, {[]rune{97, 10, 97}, 2}, {[]rune{0x4e2d, 127, 159}, 2},
		{[]rune{10, 0x301, 97, 0x4e2d}, 3}, {[]rune{0x4e2d, 97, 0x301, 10}, 3}, {[]rune{10, 0x4e2d, 0x301, 97}, 3},
		{[]rune{27, '[', '6', 'n'}, 3}, {[]rune{'e', 0x301, 0x4e2d, 0xfe0f}, 3},
		{[]rune{-1, -2, -3, 0x4e2d, 0, 1, 2}, 2},
	} {
		checkText(t, x.l, x.width)
	}
}

// ofEach is numbers of each width, two of each, and their widths where they count.
func ofEach() (numbers []rune, counts []int) {
	return []rune{10, -1, 0x301, 0x309a, 97, 160, 0x4e2d, 0x1f600}, []int{0, 0, 0, 0, 1, 1, 2, 2}
}

// P12.1, P12.2: all rows of up to four of these, cut at each place.
func TestTextAllRows(t *testing.T) {
	numbers, counts := ofEach()
	var goOn func(l []rune, width int)
	goOn = func(l []rune, width int) {
		checkText(t, l, width)
		if len(l) == 4 {
			return
		}
		for i, c := range numbers {
			goOn(slices.Concat(l, []rune{c}), width+counts[i])
		}
	}
	goOn(nil, 0)
}

// P12.1, P12.2: texts that look like chance, cut at each place, and a long one.
func TestTextNoise(t *testing.T) {
	n := noise(7)
	numbers, counts := ofEach()
	for range 500 {
		var l []rune
		width := 0
		for range n.next() % 40 {
			i := n.next() % uint64(len(numbers))
			l = append(l, numbers[i])
			width += counts[i]
		}
		checkText(t, l, width)
	}
	for range 500 {
		l := make([]rune, n.next()%40)
		for i := range l {
			l[i] = rune(n.next() >> (n.next() % 24))
		}
		checkText(t, l, slowText(l))
	}
	long := slices.Repeat([]rune{10, 0x301, 97, 0x4e2d}, 100000)
	if width := Text(long...); width != 300000 {
		t.Errorf("the width of a long text is %d", width)
	}
}

// P12.1: one call does not hang on those ahead of it.
func TestAlike(t *testing.T) {
	for range 3 {
		for _, c := range []rune{10, 0x301, 97, 0x4e2d, -5, 0x3099, 0x3098} {
			checkOf(t, c, slowOf(c))
		}
	}
}

func BenchmarkPlain(b *testing.B) {
	l := slices.Repeat([]rune("plain text, "), 100)
	for b.Loop() {
		Text(l...)
	}
}

func BenchmarkListed(b *testing.B) {
	l := slices.Repeat([]rune{0x4e2d, 0x301, 0x416, 0x1f600}, 300)
	for b.Loop() {
		Text(l...)
	}
}

func BenchmarkTables(b *testing.B) {
	for b.Loop() {
		Tables()
	}
}
