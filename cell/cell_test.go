package cell

import (
	"math"
	"slices"
	"testing"

	"wayfarer/api"
	"wayfarer/width"
)

// noise is numbers that look like chance and are always the same ones.
type noise uint64

func (n *noise) next() uint64 {
	*n = *n*6364136223846793005 + 1442695040888963407
	return uint64(*n >> 32)
}

func pick[T any](n *noise, l []T) T {
	return l[n.next()%uint64(len(l))]
}

// whole is the style with all flags and two colours.
func whole() api.Style {
	return api.Style{Fg: 3, Bg: 255, Bold: true, Faint: true, Italic: true, Under: true, Blink: true, Inverse: true, Hidden: true, Struck: true}
}

// flagsOf is where the flags of a style are.
func flagsOf(s *api.Style) []*bool {
	return []*bool{&s.Bold, &s.Faint, &s.Italic, &s.Under, &s.Blink, &s.Inverse, &s.Hidden, &s.Struck}
}

// flagged is the style s with the flags that the bits of n tell.
func flagged(s api.Style, n int) api.Style {
	for i, flag := range flagsOf(&s) {
		*flag = n>>i&1 == 1
	}
	return s
}

// turned is s with each of its fields turned by itself.
func turned(s api.Style) (l []api.Style) {
	for i := range flagsOf(&s) {
		x := s
		flag := flagsOf(&x)[i]
		*flag = !*flag
		l = append(l, x)
	}
	for _, colour := range []int{-1, 0, 1, 7, 8, 9, 15, 16, 17, 100, 254, 255} {
		fore, back := s, s
		fore.Fg, back.Bg = colour, colour
		l = append(l, fore, back)
	}
	return l
}

// mayBe is styles that may be.
func mayBe() []api.Style {
	plain := api.Style{Fg: -1, Bg: -1}
	l := []api.Style{plain, whole(), {}, {Fg: 255, Bg: 255}, {Fg: 7, Bg: 8, Italic: true}}
	return slices.Concat(l, turned(plain), turned(whole()))
}

// mayNotBe is styles that may not be.
func mayNotBe() (l []api.Style) {
	for _, n := range []int{-2, -3, -256, 256, 257, 1 << 16, 1 << 32, 1<<32 + 5, math.MinInt, math.MinInt + 1, math.MaxInt - 1, math.MaxInt} {
		for _, s := range []api.Style{{Fg: -1, Bg: -1}, {Fg: 5, Bg: 200}, whole()} {
			fore, back, both := s, s, s
			fore.Fg, back.Bg, both.Fg, both.Bg = n, n, n, n
			l = append(l, fore, back, both)
		}
	}
	return l
}

// checkPut holds Put to cells, and what it answers to being its own each time.
func checkPut(t *testing.T, c rune, s api.Style, want ...api.Cell) {
	t.Helper()
	first, second := Put(c, s), Put(c, s)
	if !slices.Equal(first, want) {
		t.Fatalf("Put(%x, %v) = %v, want %v", c, s, first, want)
	}
	for i := range first[:cap(first)] {
		first[:cap(first)][i] = api.Cell{Char: 99, Wide: 99}
	}
	if !slices.Equal(second, want) || !slices.Equal(Put(c, s), want) {
		t.Fatalf("two answers of Put(%x, %v) share memory", c, s)
	}
}

// checkMay holds May to an answer and to the slow reading.
func checkMay(t *testing.T, x api.Cell, want bool) {
	t.Helper()
	if May(x) != want || slowMay(x) != want {
		t.Errorf("May(%v) = %v, want %v (or %v)", x, May(x), want, slowMay(x))
	}
}

// checkMark holds Mark to a cell and to the slow reading.
func checkMark(t *testing.T, x api.Cell, c rune, want api.Cell) {
	t.Helper()
	if m := Mark(x, c); m != want || slowMark(x, c) != want {
		t.Errorf("Mark(%v, %x) = %v, want %v (or %v)", x, c, m, want, slowMark(x, c))
	}
}

// P14.1, P14.2: the examples of the chapter.
func TestExamples(t *testing.T) {
	plain := Plain()
	bold := Apply(plain, 1, 31)
	if bold != (api.Style{Fg: 1, Bg: -1, Bold: true}) {
		t.Errorf("Apply(plain, 1 31) = %v", bold)
	}
	if s := Apply(bold); s != plain {
		t.Errorf("Apply of nothing = %v", s)
	}
	if s := Apply(bold, 38, 5, 200, 4); s != (api.Style{Fg: 200, Bg: -1, Bold: true, Under: true}) {
		t.Errorf("Apply(that, 38 5 200 4) = %v", s)
	}
	checkPut(t, 97, plain, api.Cell{Char: 97, Wide: 1, Style: plain})
	checkPut(t, 0x4e2d, plain, api.Cell{Char: 0x4e2d, Wide: 2, Style: plain}, api.Cell{Style: plain})
	checkPut(t, 0x301, plain)
	checkMark(t, Put(97, plain)[0], 0x301, api.Cell{Char: 97, Marks: [3]rune{0x301, 0, 0}, Wide: 1, Style: plain})
	checkMark(t, Put(0x4e2d, plain)[1], 0x301, Put(0x4e2d, plain)[1])
	checkMark(t, Put(0x4e2d, plain)[1], 301, Put(0x4e2d, plain)[1])
}

// The characters that these tests stand on have the widths that are said of them.
func TestWidths(t *testing.T) {
	for n := -1; n <= 2; n++ {
		for _, c := range ofWidth(n) {
			if width.Of(c) != n {
				t.Errorf("the width of %x is %d, want %d", c, width.Of(c), n)
			}
		}
	}
}

// P14.1: the plain style.
func TestPlain(t *testing.T) {
	for range 2 {
		s := Plain()
		if s != (api.Style{Fg: -1, Bg: -1}) {
			t.Fatalf("Plain() = %v", s)
		}
		s.Fg, s.Bold = 4, true
	}
}

// P14.1: of a style only Bg comes to the blank.
func TestBlank(t *testing.T) {
	blank := func(bg int) api.Cell {
		return api.Cell{Char: 32, Wide: 1, Style: api.Style{Fg: -1, Bg: bg}}
	}
	plain := Plain()
	if Blank(plain) != blank(-1) {
		t.Errorf("Blank(plain) = %v", Blank(plain))
	}
	if Blank(whole()) != blank(255) {
		t.Errorf("Blank(%v) = %v", whole(), Blank(whole()))
	}
	if Blank(api.Style{}) != blank(0) {
		t.Errorf("Blank of the colours 0 = %v", Blank(api.Style{}))
	}
	for i := range 8 {
		if s := flagged(plain, 1<<i); Blank(s) != blank(-1) {
			t.Errorf("Blank(%v) = %v", s, Blank(s))
		}
		if s := flagged(whole(), 255&^(1<<i)); Blank(s) != blank(255) {
			t.Errorf("Blank(%v) = %v", s, Blank(s))
		}
	}
	for _, n := range []int{-1, 0, 9, 255, -2, 256, math.MinInt, math.MaxInt} {
		if s := (api.Style{Fg: n, Bg: -1}); Blank(s) != blank(-1) {
			t.Errorf("Blank(%v) = %v", s, Blank(s))
		}
		if s := (api.Style{Fg: -1, Bg: n}); Blank(s) != blank(n) {
			t.Errorf("Blank(%v) = %v", s, Blank(s))
		}
	}
}

// P14.1: a cell may be only where its style may.
func TestMayStyle(t *testing.T) {
	cells := func(s api.Style) []api.Cell {
		return []api.Cell{
			{Style: s},
			{Char: 'a', Wide: 1, Style: s},
			{Char: 0x4e2d, Wide: 2, Style: s},
			{Char: 'a', Wide: 1, Marks: [3]rune{0x301, 0x302, 0x300}, Style: s},
		}
	}
	for _, s := range mayBe() {
		for _, x := range cells(s) {
			checkMay(t, x, true)
		}
	}
	for _, s := range mayNotBe() {
		for _, x := range cells(s) {
			checkMay(t, x, false)
		}
	}
	for _, x := range []struct {
		colour int
		may    bool
	}{
		{math.MinInt, false}, {-2, false}, {-1, true}, {0, true}, {255, true}, {256, false}, {math.MaxInt, false},
	} {
		checkMay(t, api.Cell{Char: 'a', Wide: 1, Style: api.Style{Fg: x.colour, Bg: 4}}, x.may)
		checkMay(t, api.Cell{Char: 'a', Wide: 1, Style: api.Style{Fg: 4, Bg: x.colour}}, x.may)
		checkMay(t, api.Cell{Style: api.Style{Fg: x.colour, Bg: 4}}, x.may)
		checkMay(t, api.Cell{Style: api.Style{Fg: 4, Bg: x.colour}}, x.may)
	}
}

// P14.1: each Wide with characters of each width.
func TestMayWide(t *testing.T) {
	for wide := range 256 {
		for n := -1; n <= 2; n++ {
			for _, c := range ofWidth(n) {
				may := wide == n && n > 0 || wide == 0 && c == 0
				checkMay(t, api.Cell{Char: c, Wide: uint8(wide), Style: Plain()}, may)
			}
		}
	}
	checkMay(t, api.Cell{}, true)
	checkMay(t, api.Cell{Char: 0x301, Style: Plain()}, false)
	checkMay(t, api.Cell{Char: ' ', Style: Plain()}, false)
}

// P14.1: rows of marks that may be, and that may not be.
func TestMayMarks(t *testing.T) {
	for _, x := range []struct {
		marks [3]rune
		may   bool
	}{
		{[3]rune{}, true},
		{[3]rune{0x301}, true},
		{[3]rune{0x301, 0x302}, true},
		{[3]rune{0x301, 0x301, 0x301}, true},
		{[3]rune{0x301, 0x302, 0xe01ef}, true},
		{[3]rune{0, 0x301, 0}, false},
		{[3]rune{0, 0, 0x301}, false},
		{[3]rune{0, 0x301, 0x302}, false},
		{[3]rune{0x301, 0, 0x302}, false},
		{[3]rune{'b'}, false},
		{[3]rune{0x4e2d}, false},
		{[3]rune{10}, false},
		{[3]rune{-1}, false},
		{[3]rune{0x301, 'b'}, false},
		{[3]rune{0x301, 0x4e2d}, false},
		{[3]rune{0x301, 127}, false},
		{[3]rune{'b', 0x301}, false},
		{[3]rune{0x301, 0x302, 'b'}, false},
		{[3]rune{0x301, 0x302, 0x4e2d}, false},
		{[3]rune{0x301, 0x302, math.MinInt32}, false},
		{[3]rune{0x301, 0x302, math.MaxInt32}, false},
		{[3]rune{0x301, 'b', 0x302}, false},
		{[3]rune{0, 'b', 0}, false},
		{[3]rune{0, 0, -5}, false},
	} {
		checkMay(t, api.Cell{Char: 'a', Wide: 1, Marks: x.marks, Style: Plain()}, x.may)
		checkMay(t, api.Cell{Char: 0x4e2d, Wide: 2, Marks: x.marks, Style: whole()}, x.may)
		// The second half has no mark, a Char as little.
		checkMay(t, api.Cell{Marks: x.marks, Style: Plain()}, x.marks == [3]rune{})
		checkMay(t, api.Cell{Marks: x.marks, Wide: 3, Style: Plain()}, false)
		checkMay(t, api.Cell{Char: 'a', Marks: x.marks, Style: Plain()}, false)
	}
}

// fewOfEach is numbers that a place of a cell may hold: none, some of each width.
func fewOfEach() []rune {
	return []rune{0, 10, -1, 0x301, 0x302a, 'a', 160, 0x4e2d}
}

// allCells calls f with all cells of these numbers and few styles.
func allCells(f func(x api.Cell)) {
	few := fewOfEach()
	for _, s := range []api.Style{Plain(), whole(), {Fg: 256}, {Bg: -2}} {
		for _, wide := range []uint8{0, 1, 2, 3, 255} {
			for _, c := range few {
				for _, m := range few {
					for _, n := range few {
						for _, o := range few {
							f(api.Cell{Char: c, Marks: [3]rune{m, n, o}, Wide: wide, Style: s})
						}
					}
				}
			}
		}
	}
}

// P14.1: all cells of a few numbers.
func TestMayAllCells(t *testing.T) {
	count := 0
	allCells(func(x api.Cell) {
		if May(x) != slowMay(x) {
			t.Fatalf("May(%v) = %v", x, May(x))
		}
		if May(x) {
			count++
		}
	})
	// Of each of the two styles: one half; of three Chars 1 + 2 + 4 + 8 rows of marks.
	if count != 2*(1+3*15) {
		t.Errorf("%d cells may be", count)
	}
}

// P14.1: characters of each width, of any style.
func TestPut(t *testing.T) {
	for _, s := range slices.Concat(mayBe(), mayNotBe()) {
		for _, c := range ofWidth(1) {
			checkPut(t, c, s, api.Cell{Char: c, Wide: 1, Style: s})
		}
		for _, c := range ofWidth(2) {
			checkPut(t, c, s, api.Cell{Char: c, Wide: 2, Style: s}, api.Cell{Style: s})
		}
		for _, c := range slices.Concat(ofWidth(0), ofWidth(-1)) {
			checkPut(t, c, s)
		}
	}
	checkPut(t, math.MinInt32, whole())
	checkPut(t, math.MaxInt32, whole())
}

// P14.1: all numbers that may be characters, and those around them.
func TestPutAll(t *testing.T) {
	s := whole()
	for c := rune(-500); c < 0x110000+500; c++ {
		l := Put(c, s)
		if len(l) != max(width.Of(c), 0) {
			t.Fatalf("Put(%x) is %d cells", c, len(l))
		}
		if len(l) > 0 && l[0] != (api.Cell{Char: c, Wide: uint8(len(l)), Style: s}) {
			t.Fatalf("Put(%x) = %v", c, l)
		}
		if len(l) > 1 && l[1] != (api.Cell{Style: s}) {
			t.Fatalf("Put(%x) = %v", c, l)
		}
	}
}

// P14.1: what is put behind one answer of Put comes into no other one.
func TestPutShareNothing(t *testing.T) {
	one, two := Put('a', Plain()), Put(0x4e2d, Plain())
	_ = append(one, api.Cell{Char: 1})
	_ = append(two, api.Cell{Char: 1})
	checkPut(t, 'a', Plain(), one...)
	checkPut(t, 0x4e2d, Plain(), two...)
	one[0].Char = 'b'
	checkPut(t, 'a', Plain(), api.Cell{Char: 'a', Wide: 1, Style: Plain()})
}

// P14.1: marks by hand, from none on to one too many.
func TestMark(t *testing.T) {
	for _, s := range []api.Style{Plain(), whole(), {Fg: 256, Bg: -2}} {
		for _, first := range []api.Cell{{Char: 'a', Wide: 1, Style: s}, {Char: 0x4e2d, Wide: 2, Style: s}} {
			one, two, three := first, first, first
			one.Marks = [3]rune{0x301}
			two.Marks = [3]rune{0x301, 0x302a}
			three.Marks = [3]rune{0x301, 0x302a, 0x301}
			checkMark(t, first, 0x301, one)
			checkMark(t, one, 0x302a, two)
			checkMark(t, two, 0x301, three)
			for _, c := range ofWidth(0) {
				checkMark(t, three, c, three)
			}
			for _, x := range []api.Cell{first, one, two, three} {
				for _, c := range slices.Concat(ofWidth(-1), ofWidth(1), ofWidth(2)) {
					checkMark(t, x, c, x)
				}
			}
			for _, c := range ofWidth(0) {
				x := first
				x.Marks[0] = c
				checkMark(t, first, c, x)
			}
		}
	}
}

// P14.1: the Wide alone says whether there is a place for marks, whatever the Char is.
func TestMarkWide(t *testing.T) {
	for wide := range 256 {
		for _, char := range fewOfEach() {
			for _, marks := range [][3]rune{{}, {0x302}, {0x302, 0x303}, {0x302, 0x303, 0x304}} {
				x := api.Cell{Char: char, Marks: marks, Wide: uint8(wide), Style: Plain()}
				want := x
				count := slices.Index(append(marks[:], 0), 0)
				if (wide == 1 || wide == 2) && count < 3 {
					want.Marks[count] = 0x301
				}
				checkMark(t, x, 0x301, want)
				checkMark(t, x, 'b', x)
				checkMark(t, x, 0x4e2d, x)
				checkMark(t, x, 10, x)
				checkMark(t, x, 0, x)
			}
		}
	}
}

// P14.1: of a cell that may not be the marks that are there stay, in their order, ahead of the one that comes.
func TestMarkGaps(t *testing.T) {
	for _, x := range []struct{ marks, want [3]rune }{
		{[3]rune{0, 0x302, 0}, [3]rune{0x302, 0x301, 0}},
		{[3]rune{0, 0, 0x302}, [3]rune{0x302, 0x301, 0}},
		{[3]rune{0, 0x302, 0x303}, [3]rune{0x302, 0x303, 0x301}},
		{[3]rune{0x302, 0, 0x303}, [3]rune{0x302, 0x303, 0x301}},
		{[3]rune{'b', 0, 0}, [3]rune{'b', 0x301, 0}},
		{[3]rune{'b', -1, 0x4e2d}, [3]rune{'b', -1, 0x4e2d}},
	} {
		c := api.Cell{Char: 'a', Wide: 1, Marks: x.marks, Style: Plain()}
		marked := c
		marked.Marks = x.want
		checkMark(t, c, 0x301, marked)
		checkMark(t, c, 'b', c)
	}
}

// P14.1, P14.4: all cells of a few numbers with each of these characters; what may be stays so, what is handed in stays.
func TestMarkAllCells(t *testing.T) {
	few := fewOfEach()
	allCells(func(x api.Cell) {
		handed := x
		for _, c := range few {
			m := Mark(handed, c)
			if m != slowMark(x, c) || handed != x {
				t.Fatalf("Mark(%v, %x) = %v", x, c, m)
			}
			if May(x) && !May(m) {
				t.Fatalf("Mark(%v, %x) = %v, which may not be", x, c, m)
			}
		}
	})
}

// P14.4: what is made of a style that may be, may be.
func TestWhatIsMadeMayBe(t *testing.T) {
	for _, s := range mayBe() {
		checkMay(t, Blank(s), true)
		for _, c := range everyWidth() {
			for _, x := range Put(c, s) {
				checkMay(t, x, true)
				for _, m := range slices.Concat(ofWidth(0), ofWidth(1)[:2], ofWidth(2)[:2], ofWidth(-1)[:3]) {
					x = Mark(x, m)
					checkMay(t, x, true)
				}
			}
		}
	}
	// Of one that may not be, by its Bg, the blank may not be; by its Fg it may.
	checkMay(t, Blank(api.Style{Fg: 4, Bg: 256}), false)
	checkMay(t, Blank(api.Style{Fg: 256, Bg: 4}), true)
	for _, s := range mayNotBe() {
		for _, x := range slices.Concat(Put('a', s), Put(0x4e2d, s)) {
			checkMay(t, x, false)
			checkMay(t, Mark(x, 0x301), false)
		}
	}
}

// P14.4: all characters, with all of the flags.
func TestPutAllMayBe(t *testing.T) {
	for c := rune(0); c < 0x110000; c++ {
		for _, x := range Put(c, flagged(Plain(), int(c)&255)) {
			if !May(x) || !May(Mark(x, 0x301)) {
				t.Fatalf("Put(%x) = %v may not be", c, x)
			}
		}
	}
}

func BenchmarkPut(b *testing.B) {
	s := whole()
	for b.Loop() {
		Put('a', s)
	}
}

func BenchmarkMay(b *testing.B) {
	x := Blank(whole())
	for b.Loop() {
		May(x)
	}
}
