package cell

import (
	"math"
	"slices"
	"strconv"
	"testing"

	"wayfarer/api"
)

// checkApply holds Apply to a style and to the slow reading, and what it was handed to staying as it is. In the room behind the end stands what would be seen if it were read.
func checkApply(t *testing.T, s api.Style, params []int, want api.Style) {
	t.Helper()
	handed := slices.Concat(params, []int{5, 77, 1, 3, 31})[:len(params)]
	all := slices.Clone(handed[:len(params)+5])
	if a := Apply(s, handed...); a != want || slowApply(s, params) != want {
		t.Fatalf("Apply(%v, %d) = %v, want %v (or %v)", s, params, a, want, slowApply(s, params))
	}
	if !slices.Equal(handed[:len(params)+5], all) {
		t.Fatalf("Apply changed %d", params)
	}
}

// anyStyles is styles that may be, and some that may not.
func anyStyles() []api.Style {
	return []api.Style{
		Plain(), whole(), {}, {Fg: 7, Bg: 8, Italic: true, Hidden: true}, {Fg: -1, Bg: 4, Bold: true},
		{Fg: 999, Bg: -7, Faint: true}, {Fg: math.MinInt, Bg: math.MaxInt, Struck: true, Blink: true},
	}
}

// P14.2: no parameters are as one of 0.
func TestApplyNothing(t *testing.T) {
	for _, s := range slices.Concat(anyStyles(), mayBe(), mayNotBe()) {
		checkApply(t, s, nil, api.Style{Fg: -1, Bg: -1})
		checkApply(t, s, []int{}, api.Style{Fg: -1, Bg: -1})
		checkApply(t, s, []int{0}, api.Style{Fg: -1, Bg: -1})
		if Apply(s) != Plain() {
			t.Errorf("Apply(%v) = %v", s, Apply(s))
		}
	}
}

// P14.2: each number by itself, by hand of the plain style.
func TestApplyOnPlain(t *testing.T) {
	plain := Plain()
	for n, want := range map[int]api.Style{
		1: {Fg: -1, Bg: -1, Bold: true}, 2: {Fg: -1, Bg: -1, Faint: true}, 3: {Fg: -1, Bg: -1, Italic: true}, 4: {Fg: -1, Bg: -1, Under: true},
		5: {Fg: -1, Bg: -1, Blink: true}, 6: plain, 7: {Fg: -1, Bg: -1, Inverse: true}, 8: {Fg: -1, Bg: -1, Hidden: true}, 9: {Fg: -1, Bg: -1, Struck: true},
		10: plain, 21: plain, 22: plain, 26: plain, 29: plain,
		30: {Fg: 0, Bg: -1}, 31: {Fg: 1, Bg: -1}, 37: {Fg: 7, Bg: -1}, 38: plain, 39: plain,
		40: {Fg: -1, Bg: 0}, 41: {Fg: -1, Bg: 1}, 47: {Fg: -1, Bg: 7}, 48: plain, 49: plain, 50: plain,
		89: plain, 90: {Fg: 8, Bg: -1}, 91: {Fg: 9, Bg: -1}, 97: {Fg: 15, Bg: -1}, 98: plain, 99: plain,
		100: {Fg: -1, Bg: 8}, 101: {Fg: -1, Bg: 9}, 107: {Fg: -1, Bg: 15}, 108: plain, 109: plain, 110: plain,
	} {
		checkApply(t, plain, []int{n}, want)
	}
}

// P14.2: what takes a flag away takes no other one.
func TestApplyOff(t *testing.T) {
	for n, off := range map[int]int{21: 0, 22: 3, 23: 4, 24: 8, 25: 16, 26: 0, 27: 32, 28: 64, 29: 128} {
		checkApply(t, whole(), []int{n}, flagged(whole(), 255&^off))
		for bits := range 256 {
			checkApply(t, flagged(whole(), bits), []int{n}, flagged(whole(), bits&^off))
		}
	}
}

// P14.2: each number by itself of more than one style; what the table has no row for says nothing.
func TestApplyEach(t *testing.T) {
	table := slowTable()
	if len(table) != 18+32 {
		t.Fatalf("the table has %d rows", len(table))
	}
	for _, s := range anyStyles() {
		for n := -1; n <= 110; n++ {
			want := s
			if f, ok := table[n]; ok {
				f(&want)
			}
			checkApply(t, s, []int{n}, want)
		}
	}
}

// P14.2: great and negative numbers say nothing, those among them too whose lowest bits would.
func TestApplyFar(t *testing.T) {
	for _, s := range anyStyles() {
		for _, n := range []int{1, 22, 31, 38, 45, 92, 103} {
			for _, far := range []int{n + 1<<8, n + 1<<16, n + 1<<32, n + 1<<62, -n, -n - 1<<8, n - 1<<16, n - 1<<32, math.MinInt + n, math.MaxInt - n} {
				checkApply(t, s, []int{far}, s)
			}
		}
		for _, n := range []int{-1, -38, 111, 200, 255, 256, 9999, math.MinInt, math.MinInt + 1, math.MaxInt - 1, math.MaxInt} {
			checkApply(t, s, []int{n}, s)
		}
	}
}

// P14.2: what stands behind 38 and 48, by hand.
func TestApplyLong(t *testing.T) {
	type behind struct {
		params []int
		colour int // -1: it stays
		change func(s *api.Style)
	}
	none := func(*api.Style) {}
	bold := func(s *api.Style) { s.Bold = true }
	faint := func(s *api.Style) { s.Faint = true }
	blink := func(s *api.Style) { s.Blink = true }
	italic := func(s *api.Style) { s.Italic = true }
	rows := []behind{
		{nil, -1, none},
		{[]int{5}, -1, blink},
		{[]int{5, -1}, -1, none}, {[]int{5, 0}, 0, none}, {[]int{5, 1}, 1, none}, {[]int{5, 255}, 255, none}, {[]int{5, 256}, -1, none},
		{[]int{5, math.MinInt}, -1, none}, {[]int{5, math.MaxInt}, -1, none}, {[]int{5, 1 << 32}, -1, none}, {[]int{5, -256}, -1, none},
		{[]int{5, -1, 1}, -1, bold}, {[]int{5, 0, 1}, 0, bold}, {[]int{5, 255, 1}, 255, bold}, {[]int{5, 256, 1}, -1, bold},
		{[]int{5, 5}, 5, none}, {[]int{5, 5, 5}, 5, blink}, {[]int{5, 2, 1}, 2, bold}, {[]int{5, 38, 1}, 38, bold}, {[]int{5, 48, 5, 1}, 48, func(s *api.Style) { bold(s); blink(s) }},
		{[]int{2}, -1, none}, {[]int{2, 1}, -1, none}, {[]int{2, 1, 3}, -1, none}, {[]int{2, 1, 3, 5}, -1, none},
		{[]int{2, 1, 3, 5, 2}, -1, faint}, {[]int{2, 1, 3, 5, 2, 1}, -1, func(s *api.Style) { faint(s); bold(s) }},
		{[]int{2, 38, 5, 7, 3}, -1, italic}, {[]int{2, 0, 0, 0}, -1, none}, {[]int{2, -1, math.MaxInt, math.MinInt, 3}, -1, italic},
		{[]int{1}, -1, bold}, {[]int{3}, -1, italic}, {[]int{3, 1}, -1, func(s *api.Style) { italic(s); bold(s) }},
		{[]int{4, 24, 200}, -1, none}, {[]int{6, 5}, -1, blink}, {[]int{-5, 200}, -1, none}, {[]int{261, 200}, -1, none}, {[]int{258, 3, 3, 3}, -1, italic},
	}
	for _, first := range []int{38, 48} {
		for _, s := range []api.Style{Plain(), {Fg: 77, Bg: 88, Inverse: true}, {Fg: 999, Bg: -7}} {
			for _, x := range rows {
				want := s
				x.change(&want)
				if x.colour != -1 && first == 38 {
					want.Fg = x.colour
				} else if x.colour != -1 {
					want.Bg = x.colour
				}
				checkApply(t, s, append([]int{first}, x.params...), want)
			}
		}
	}
}

// P14.2: one of 38 and 48 behind another.
func TestApplyLongRows(t *testing.T) {
	plain := Plain()
	for _, x := range []struct {
		params []int
		want   api.Style
	}{
		{[]int{38, 38, 5, 9}, api.Style{Fg: 9, Bg: -1}},
		{[]int{38, 48, 5, 9}, api.Style{Fg: -1, Bg: 9}},
		{[]int{48, 38, 5, 9}, api.Style{Fg: 9, Bg: -1}},
		{[]int{38, 5, 9, 48, 5, 8}, api.Style{Fg: 9, Bg: 8}},
		{[]int{38, 5, 9, 38, 5, 8}, api.Style{Fg: 8, Bg: -1}},
		{[]int{38, 5, 48, 5, 8}, api.Style{Fg: 48, Bg: -1, Blink: true, Hidden: true}},
		{[]int{38, 5, 38, 5}, api.Style{Fg: 38, Bg: -1, Blink: true}},
		{[]int{38, 2, 38, 5, 9, 48, 5, 8}, api.Style{Fg: -1, Bg: 8}},
		{[]int{38, 2, 1, 1, 1, 48, 2, 1, 1, 1, 9}, api.Style{Fg: -1, Bg: -1, Struck: true}},
		{[]int{38, 5, 9, 0}, plain},
		{[]int{38, 5, 9, 39}, plain},
		{[]int{48, 5, 9, 49, 1}, api.Style{Fg: -1, Bg: -1, Bold: true}},
		{[]int{38, 0, 5, 9}, api.Style{Fg: -1, Bg: -1, Blink: true, Struck: true}},
		{[]int{1, 2, 38}, api.Style{Fg: -1, Bg: -1, Bold: true, Faint: true}},
	} {
		checkApply(t, plain, x.params, x.want)
	}
}

// P14.2: parameters do as one behind the other, the later one over the one ahead.
func TestApplyMany(t *testing.T) {
	checkApply(t, Plain(), []int{1, 2, 3, 4, 5, 7, 8, 9, 33, 48, 5, 255}, whole())
	checkApply(t, whole(), []int{22, 23, 24, 25, 27, 28, 29, 39, 49}, Plain())
	checkApply(t, whole(), []int{0, 1}, api.Style{Fg: -1, Bg: -1, Bold: true})
	checkApply(t, whole(), []int{1, 0}, Plain())
	checkApply(t, Plain(), []int{1, 22, 2}, api.Style{Fg: -1, Bg: -1, Faint: true})
	checkApply(t, Plain(), []int{31, 92, 33, 44, 105}, api.Style{Fg: 3, Bg: 13})
	checkApply(t, Plain(), slices.Repeat([]int{38, 5, 7, 4, 24, 48, 5, 9}, 10000), api.Style{Fg: 7, Bg: 9})
	long := slices.Repeat([]int{1, 31, 38, 2}, 100000)
	if s := Apply(Plain(), long...); s != slowApply(Plain(), long) {
		t.Errorf("Apply of many = %v", s)
	}
}

// P14.2: all rows of up to five numbers of those that pass over others, and few more.
func TestApplyAllRows(t *testing.T) {
	numbers := []int{38, 48, 5, 2, 1, 256, 0}
	s := api.Style{Fg: 77, Bg: 88, Italic: true}
	var goOn func(l []int)
	goOn = func(l []int) {
		checkApply(t, s, l, slowApply(s, l))
		if len(l) == 5 {
			return
		}
		for _, n := range numbers {
			goOn(slices.Concat(l, []int{n}))
		}
	}
	goOn(nil)
}

// P14.2: rows that look like chance.
func TestApplyNoise(t *testing.T) {
	n := noise(14)
	for range 20000 {
		l := make([]int, n.next()%20)
		for i := range l {
			switch n.next() % 4 {
			case 0:
				l[i] = pick(&n, []int{38, 48, 5, 2})
			case 1:
				l[i] = int(int32(n.next())) >> (n.next() % 32)
			default:
				l[i] = int(n.next() % 112)
			}
		}
		s := pick(&n, anyStyles())
		checkApply(t, s, l, slowApply(s, l))
	}
}

// checkChange holds Change to P14.3.
func checkChange(t *testing.T, from, to api.Style) {
	t.Helper()
	l := Change(from, to)
	if len(l) > 24 || (len(l) == 0) != (from == to) {
		t.Fatalf("Change(%v, %v) = %d", from, to, l)
	}
	for _, n := range l {
		if n < 0 || n > 255 {
			t.Fatalf("Change(%v, %v) = %d", from, to, l)
		}
	}
	if from != to && (Apply(from, l...) != to || slowApply(from, l) != to) {
		t.Fatalf("Change(%v, %v) = %d, which makes %v (or %v)", from, to, l, Apply(from, l...), slowApply(from, l))
	}
	again := Change(from, to)
	if !slices.Equal(l, again) {
		t.Fatalf("Change(%v, %v) = %d, and then %d", from, to, l, again)
	}
	for i := range l[:cap(l)] {
		l[:cap(l)][i] = -99
	}
	if slices.Contains(again, -99) || slices.Contains(Change(from, to), -99) {
		t.Fatalf("two answers of Change(%v, %v) share memory", from, to)
	}
}

// P14.3: styles that differ in one field, in many, in all, both ways.
func TestChange(t *testing.T) {
	styles := mayBe()
	for _, from := range styles {
		for _, to := range styles {
			checkChange(t, from, to)
		}
	}
	for bits := range 256 {
		s := flagged(Plain(), bits)
		other := api.Style{Fg: 200, Bg: 12}
		for i := range 8 {
			checkChange(t, s, flagged(s, bits^1<<i))
		}
		checkChange(t, s, flagged(s, bits^255))
		checkChange(t, s, flagged(other, bits^255))
		checkChange(t, flagged(other, bits), flagged(Plain(), bits^255))
		checkChange(t, s, Plain())
		checkChange(t, Plain(), s)
		checkChange(t, flagged(other, bits), Plain())
		checkChange(t, Plain(), flagged(other, bits))
	}
}

// P14.3: all flags to all flags, the colours staying and changing.
func TestChangeFlags(t *testing.T) {
	for from := range 256 {
		for to := range 256 {
			checkChange(t, flagged(Plain(), from), flagged(Plain(), to))
			checkChange(t, flagged(api.Style{Fg: 200, Bg: 9}, from), flagged(api.Style{Fg: 200, Bg: 100}, to))
		}
	}
}

// P14.3: Bold and Faint in every combination, both ways.
func TestChangeWeight(t *testing.T) {
	for _, s := range []api.Style{Plain(), whole(), {Fg: 3, Bg: 16}} {
		for from := range 4 {
			for to := range 4 {
				a, b := s, s
				a.Bold, a.Faint = from&1 == 1, from&2 == 2
				b.Bold, b.Faint = to&1 == 1, to&2 == 2
				checkChange(t, a, b)
				b.Under = !b.Under
				checkChange(t, a, b)
				b.Fg = 99
				checkChange(t, a, b)
			}
		}
	}
}

// P14.3: all colours to all colours, in one field and in the other.
func TestChangeColours(t *testing.T) {
	for from := -1; from <= 255; from++ {
		for to := -1; to <= 255; to++ {
			checkChange(t, api.Style{Fg: from, Bg: 5, Bold: true}, api.Style{Fg: to, Bg: 5, Bold: true})
			checkChange(t, api.Style{Fg: 200, Bg: from, Struck: true}, api.Style{Fg: 200, Bg: to, Struck: true})
		}
	}
	edges := []int{-1, 0, 7, 8, 15, 16, 255}
	for _, fg := range edges {
		for _, bg := range edges {
			for _, toFg := range edges {
				for _, toBg := range edges {
					checkChange(t, api.Style{Fg: fg, Bg: bg}, api.Style{Fg: toFg, Bg: toBg})
					checkChange(t, flagged(api.Style{Fg: fg, Bg: bg}, 255), api.Style{Fg: toFg, Bg: toBg})
					checkChange(t, api.Style{Fg: fg, Bg: bg}, flagged(api.Style{Fg: toFg, Bg: toBg}, 255))
				}
			}
		}
	}
}

// P14.3: none, where one of the two may not be, or both are the same.
func TestChangeNone(t *testing.T) {
	for _, wrong := range mayNotBe() {
		for _, s := range []api.Style{Plain(), whole(), {Fg: 5, Bg: 200}} {
			if l := Change(wrong, s); len(l) != 0 {
				t.Errorf("Change(%v, %v) = %d", wrong, s, l)
			}
			if l := Change(s, wrong); len(l) != 0 {
				t.Errorf("Change(%v, %v) = %d", s, wrong, l)
			}
		}
		for _, other := range mayNotBe() {
			if l := Change(wrong, other); len(l) != 0 {
				t.Errorf("Change(%v, %v) = %d", wrong, other, l)
			}
		}
	}
	for _, s := range mayBe() {
		if l := Change(s, s); len(l) != 0 {
			t.Errorf("Change(%v, itself) = %d", s, l)
		}
	}
}

// P14.3: styles that look like chance, one behind the other.
func TestChangeNoise(t *testing.T) {
	n := noise(3)
	colours := []int{-1, 0, 7, 8, 15, 16, 255}
	s := Plain()
	for range 50000 {
		next := flagged(api.Style{Fg: int(n.next()%257) - 1, Bg: pick(&n, colours)}, int(n.next()%256))
		checkChange(t, s, next)
		s = next
	}
}

// P14.3: which ones are free; these are few.
func TestChangeFew(t *testing.T) {
	for _, x := range []struct {
		from, to api.Style
		want     []int
	}{
		{whole(), Plain(), []int{0}},
		{api.Style{Fg: 4, Bg: -1}, Plain(), []int{0}},
		{Plain(), api.Style{Fg: 1, Bg: -1, Bold: true}, []int{1, 31}},
		{api.Style{Fg: 1, Bg: -1}, api.Style{Fg: 2, Bg: -1}, []int{32}},
		{api.Style{Fg: 200, Bg: 100, Under: true}, api.Style{Fg: 200, Bg: 100}, []int{24}},
		{api.Style{Fg: 200, Bg: 100}, api.Style{Fg: 200, Bg: -1}, []int{49}},
		{api.Style{Fg: 200, Bg: 100, Bold: true, Faint: true}, api.Style{Fg: 200, Bg: 100, Bold: true}, []int{22, 1}},
		{whole(), api.Style{Fg: 9, Bg: -1}, []int{0, 91}},
	} {
		if l := Change(x.from, x.to); !slices.Equal(l, x.want) {
			t.Errorf("Change(%v, %v) = %d, want %d", x.from, x.to, l, x.want)
		}
	}
}

// written is how many bytes parameters take, with what stands between them.
func written(l []int) (size int) {
	for _, n := range l {
		size += len(strconv.Itoa(n)) + 1
	}
	return size
}

// P14.3: of as many parameters the ones from the plain style on are no longer, as Change goes by.
func TestAnewIsNoLonger(t *testing.T) {
	n := noise(9)
	colours := []int{-1, 7, 15, 200}
	style := func() api.Style {
		return flagged(api.Style{Fg: pick(&n, colours), Bg: pick(&n, colours)}, int(n.next()%256))
	}
	count := 0
	for range 300000 {
		from, to := style(), style()
		straight := steps(lookOf(from), lookOf(to))
		anew := append([]int{0}, steps(lookOf(Plain()), lookOf(to))...)
		if len(anew) != len(straight) {
			continue
		}
		count++
		if written(anew) > written(straight) {
			t.Fatalf("from %v to %v: %d, and %d", from, to, anew, straight)
		}
	}
	if count < 1000 {
		t.Errorf("only %d have as many", count)
	}
}

func BenchmarkApply(b *testing.B) {
	s := Plain()
	for b.Loop() {
		Apply(s, 1, 38, 5, 200, 44, 22)
	}
}

func BenchmarkChange(b *testing.B) {
	s := Plain()
	for b.Loop() {
		Change(s, whole())
	}
}
