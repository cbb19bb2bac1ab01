package emulator

import (
	"math"
	"slices"
	"strconv"
	"strings"
	"testing"

	"wayfarer/api"
	"wayfarer/screen"
)

// What the pictures stand for is what the layers below make.
func TestMarks(t *testing.T) {
	s := fresh(3, 2)
	s.Style = ground()
	for _, c := range []rune{'a', wide} {
		s, _ = screen.Print(s, c)
	}
	if pictureOf(s.Grid) != "AX=/..." {
		t.Errorf("%s", tellingOf(s))
	}
	s, _ = screen.Scroll(s, 1)
	if pictureOf(s.Grid) != ".../___" {
		t.Errorf("%s", tellingOf(s))
	}
	s = screenOf("abc/W-1 1,2+ 0-0 nowrap insert paste under t0,2 keep")
	if s.Row != 1 || s.Col != 2 || !s.Pend || s.Top != 0 || s.Bottom != 0 || s.Wrap || !s.Insert || !s.Paste || !slices.Equal(s.Tabs, []int{0, 2}) || s.Saved != (api.Saved{Row: 1, Col: 2, Pend: true, Style: under()}) {
		t.Errorf("%s", tellingOf(s))
	}
}

// P17.1: characters, and numbers that are none, or none that are printed.
func TestPrint(t *testing.T) {
	checkDeeds(t, []deed{
		{"abc/def 0,1", printed('a'), "aAc/def 0,2", ""}, {"abc/def 1,2+", printed('a'), "def/A__ 1,1", ""}, {"abc/def 0,0", printed(wide), "X=c/def 0,2", ""}, {"abc/def 0,2", printed(wide), "abc/X=f 1,2", ""},
		{"abc/def 0,1 plain", printed('x'), "axc/def 0,2", ""}, {"abc/def 0,1 insert", printed('a'), "aAb/def 0,2", ""}, {"abc/def 0,1", printed(mark), "1bc/def 0,1", ""},
		{"abc/def 0,1", printed(' ' - 1), "=", ""}, {"abc/def 0,1", printed(7), "=", ""}, {"abc/def 0,1", printed(10), "=", ""}, {"abc/def 0,1", printed(127), "=", ""}, {"abc/def 0,1", printed(141), "=", ""},
		{"abc/def 0,1", printed(0), "=", ""}, {"abc/def 0,1", printed(-1), "=", ""}, {"abc/def 0,1", printed(math.MinInt32), "=", ""}, {"abc/def 0,1", printed(math.MaxInt32), "=", ""}, {"abc/def 0,1", printed(0x110000), "=", ""}, {"abc/def 0,2+", printed(0xd800), "=", ""},
	})
}

// P17.1: the control characters from 8 to 13, and no others.
func TestExec(t *testing.T) {
	checkDeeds(t, []deed{
		{"abc/def 0,1", executed(8), "= 0,0", ""}, {"abc/def 0,0", executed(8), "= 0,0", ""}, {"abc/def 0,0", executed(9), "= 0,2", ""}, {"abc/def 0,0 t1", executed(9), "= 0,1", ""},
		{"abc/def 0,1", executed(10), "= 1,1", ""}, {"abc/def 1,1", executed(11), "def/___ 1,1", ""}, {"abc/def 0,1", executed(12), "= 1,1", ""}, {"abc/def 0,2+", executed(13), "= 0,0", ""},
		{"abc/def 0,1", executed(7), "=", ""}, {"abc/def 0,1", executed(14), "=", ""}, {"abc/def 0,1", executed(141), "=", ""}, {"abc/def 1,1", executed(141), "=", ""},
	})
	s := screenOf("abc/def/ghi 1,2+ t0,1")
	others := []rune{math.MinInt32, math.MaxInt32, -8, -13, 256 + 8, 256 + 13, 1<<16 + 10, 0x110000}
	for c := rune(-20); c < 1000; c++ {
		if c < 8 || c > 13 {
			others = append(others, c)
		}
	}
	for _, c := range others {
		checkDo(t, s, executed(c), s, "")
	}
}

// P17.1: the finals of escape sequences.
func TestEsc(t *testing.T) {
	checkDeeds(t, []deed{
		{"abc/def 0,1", esc('7'), "= keep", ""}, {"abc/def 0,2+ origin plain", esc('7'), "= keep", ""}, {"abc/def 0,1", esc('8'), "= back", ""}, {"abc/def 0,2+ origin under keep 1,1 noorigin plain", esc('8'), "= 0,2+ origin under", ""},
		{"abc/def 0,1", esc('D'), "= 1,1", ""}, {"abc/def 1,1", esc('D'), "def/___ 1,1", ""}, {"abc/def 0,2+", esc('D'), "= 1,2", ""}, {"abc/def/ghi 1,1 0-1", esc('D'), "def/___/ghi 1,1", ""},
		{"abc/def 0,1", esc('E'), "= 1,0", ""}, {"abc/def 1,2+", esc('E'), "def/___ 1,0", ""}, {"abc/def/ghi 2,1 0-1", esc('E'), "= 2,0", ""},
		{"abc/def 0,1", esc('H'), "= t1", ""}, {"abc/def 0,0", esc('H'), "= t0", ""}, {"abc/def 1,2+ t0,1", esc('H'), "= t0,1,2", ""},
		{"abc/def 1,1", esc('M'), "= 0,1", ""}, {"abc/def 0,1", esc('M'), "___/abc 0,1", ""}, {"abc/def/ghi 1,2+ 1-2", esc('M'), "abc/___/def 1,2", ""},
	})
}

// P17.1: finals, Mids and Privates that the table does not have change nothing, and nothing is replied.
func TestOtherFinals(t *testing.T) {
	s := screenOf("abc/def/ghi 1,2+ 1-2 t0,1 origin")
	params := [][]int{nil, {0}, {1}, {5}, {6, 1}}
	finals := map[api.ActionKind]string{api.AEsc: "78DEHMc", api.ACsi: "ABeCaDEFG`dHfJKLM@PXSTgmhlrsunc"}
	for final := range 256 {
		for _, a := range []api.Action{esc(byte(final)), csi(byte(final))} {
			for _, p := range params {
				a.Params = p
				if !strings.Contains(finals[a.Kind], string(rune(final))) {
					checkDo(t, s, a, s, "")
				}
				for _, mid := range []string{" ", "(", "#", "()", "!!!"} {
					b := a
					b.Mid = []byte(mid)
					checkDo(t, s, b, s, "")
				}
			}
		}
		for _, private := range []byte("<=>!0\x01\xbf\xff?") {
			for _, p := range [][]int{nil, {0}, {1}, {4}, {5}, {6}, {7}} {
				a := csi(byte(final), p...)
				a.Private = private
				if private != '?' || final != 'h' && final != 'l' {
					checkDo(t, s, a, s, "")
				}
				a.Private, a.Mid = '?', []byte("$")
				checkDo(t, s, a, s, "")
			}
		}
	}
}

// P17.1: kinds that there are not change nothing.
func TestOtherKinds(t *testing.T) {
	s := screenOf("abc/def/ghi 1,2+ 1-2 t0,1 origin")
	for kind := range 256 {
		k := api.ActionKind(kind)
		if k >= api.APrint && k <= api.AOsc {
			continue
		}
		for _, final := range []byte("cA78mn\x00") {
			checkDo(t, s, api.Action{Kind: k, Char: 'a', Final: final, Params: []int{6}, Text: []rune("0;a")}, s, "")
			checkDo(t, s, api.Action{Kind: k, Char: 10, Private: '?', Final: final, Mid: []byte("("), Text: []rune("2;")}, s, "")
		}
	}
}

// A kind's action goes by what the kind names, whatever its other fields are.
func TestOtherFields(t *testing.T) {
	s := screenOf("abc/def/ghi 1,1")
	all := api.Action{Char: 'a', Private: '?', Final: 'c', Mid: []byte("("), Params: []int{6}, Text: []rune("0;a")}
	for _, c := range []struct {
		kind api.ActionKind
		char rune
		want string
	}{{api.APrint, 'a', "abc/dAf/ghi 1,2"}, {api.AExec, 13, "= 1,0"}, {api.AExec, 'a', "="}, {api.AEsc, 'a', "="}, {api.ACsi, 'a', "="}} {
		all.Kind, all.Char = c.kind, c.char
		checkDo(t, s, all, become(s, c.want), "")
	}
	all.Kind = api.AOsc
	want := become(s, "=")
	want.Title = []rune("a")
	checkDo(t, s, all, want, "")
	all.Kind, all.Mid = api.AEsc, nil
	want = fresh(3, 3)
	want.Title = s.Title
	checkDo(t, s, all, want, "")
}

// counted is parameters, and the count at the first place, as far as a screen of a few rows and columns tells.
type counted struct {
	params []int
	n      int
}

func counts() []counted {
	return []counted{
		{nil, 1}, {[]int{0}, 1}, {[]int{1}, 1}, {[]int{2}, 2}, {[]int{3}, 3}, {[]int{9}, 9}, {[]int{9999}, 99}, {[]int{-1}, -1}, {[]int{-2}, -2}, {[]int{-9}, -9},
		{[]int{least}, -99}, {[]int{least + 1}, -99}, {[]int{-1 << 32}, -99}, {[]int{1 << 32}, 99}, {[]int{greatest - 1}, 99}, {[]int{greatest}, 99},
		{[]int{0, 3}, 1}, {[]int{2, 3}, 2}, {[]int{-2, greatest, least}, -2}, {[]int{1<<16 + 1}, 99}, {[]int{-1<<16 - 1}, -99}, {[]int{256}, 99}, {[]int{1 << 62}, 99},
	}
}

func clip(n, low, high int) int {
	return max(low, min(n, high))
}

// P17.1: the cursor moved by counts, to the edges and past them, from a place with Pend too.
func TestMoves(t *testing.T) {
	for _, from := range []string{"abcde/fghix/yzabc/defgh/ixyza 2,2", "abcde/fghix/yzabc/defgh/ixyza 1,4+"} {
		s := screenOf(from)
		for _, c := range counts() {
			down, right := clip(s.Row+c.n, 0, 4), clip(s.Col+c.n, 0, 4)
			up, left := clip(s.Row-c.n, 0, 4), clip(s.Col-c.n, 0, 4)
			for _, to := range []struct {
				finals   string
				row, col int
			}{{"A", up, s.Col}, {"Be", down, s.Col}, {"Ca", s.Row, right}, {"D", s.Row, left}, {"E", down, 0}, {"F", up, 0}, {"G`", s.Row, clip(c.n-1, 0, 4)}, {"d", clip(c.n-1, 0, 4), s.Col}} {
				for _, final := range []byte(to.finals) {
					want := become(s, "= "+strconv.Itoa(to.row)+","+strconv.Itoa(to.col))
					checkDo(t, s, csi(final, c.params...), want, "")
				}
			}
		}
	}
	// Rows that scroll hold a move that begins in them, and Origin counts from Top for a place alone.
	checkDeeds(t, []deed{
		{"a/b/c/d/e 2,0 1-3", csi('A', 9), "= 1,0", ""}, {"a/b/c/d/e 2,0 1-3", csi('B', 9), "= 3,0", ""}, {"a/b/c/d/e 2,0+ 1-3", csi('e', 9), "= 3,0", ""}, {"a/b/c/d/e 2,0 1-3", csi('E', 9), "= 3,0", ""}, {"a/b/c/d/e 2,0 1-3", csi('F', 9), "= 1,0", ""},
		{"a/b/c/d/e 4,0 1-3", csi('A'), "= 3,0", ""}, {"a/b/c/d/e 0,0 1-3", csi('F', -1), "= 1,0", ""},
		{"a/b/c/d/e 2,0 1-3", csi('d', 5), "= 4,0", ""}, {"a/b/c/d/e 2,0 1-3", csi('d'), "= 0,0", ""}, {"a/b/c/d/e 2,0 1-3 origin", csi('d', 5), "= 3,0", ""}, {"a/b/c/d/e 2,0 1-3 origin", csi('d'), "= 1,0", ""}, {"a/b/c/d/e 2,0 1-3 origin", csi('d', 2), "= 2,0", ""}, {"a/b/c/d/e 2,0 1-3 origin", csi('d', least), "= 1,0", ""},
		{"abc/def/ghi 0,1 1-2 origin", csi('G', 3), "= 0,2", ""}, {"abc/def/ghi 2,2 0-1 origin", csi('`'), "= 2,0", ""}, {"abc/def/ghi 0,1 1-2 origin", csi('C', 3), "= 0,2", ""},
	})
}

// P17.1: the cursor at a place, by two parameters, one and none.
func TestPlaces(t *testing.T) {
	const from = "abc/def/ghi 1,2+"
	for _, final := range []byte("Hf") {
		checkDeeds(t, []deed{
			{from, csi(final), "= 0,0", ""}, {from, csi(final, 0), "= 0,0", ""}, {from, csi(final, 2), "= 1,0", ""}, {from, csi(final, 3, 0), "= 2,0", ""}, {from, csi(final, 0, 3), "= 0,2", ""}, {from, csi(final, 2, 2), "= 1,1", ""}, {from, csi(final, 2, 2, 9, 9), "= 1,1", ""},
			{from, csi(final, 3, 3), "= 2,2", ""}, {from, csi(final, 4, 4), "= 2,2", ""}, {from, csi(final, 2, 9999), "= 1,2", ""}, {from, csi(final, greatest, greatest), "= 2,2", ""}, {from, csi(final, -1, 2), "= 0,1", ""}, {from, csi(final, 2, -1), "= 1,0", ""}, {from, csi(final, least, least), "= 0,0", ""}, {from, csi(final, least, greatest), "= 0,2", ""}, {from, csi(final, greatest, least), "= 2,0", ""},
			{"abc/def/ghi 0,1 1-2 origin", csi(final), "= 1,0", ""}, {"abc/def/ghi 0,1 1-2 origin", csi(final, 2, 3), "= 2,2", ""}, {"abc/def/ghi 0,1 0-1 origin", csi(final, 3), "= 1,0", ""}, {"abc/def/ghi 0,1 1-2 origin", csi(final, least, 2), "= 1,1", ""}, {"abc/def/ghi 0,1 1-2 origin", csi(final, greatest, 2), "= 2,1", ""},
		})
	}
}

// P17.1: what is erased, by the parameter, not by the count.
func TestErase(t *testing.T) {
	const from = "abc/def/ghi 1,1"
	checkDeeds(t, []deed{
		{from, csi('J'), "abc/d__/___", ""}, {from, csi('J', 0), "abc/d__/___", ""}, {from, csi('J', 1), "___/__f/ghi", ""}, {from, csi('J', 2), "___/___/___", ""}, {from, csi('J', 1, 2), "___/__f/ghi", ""},
		{from, csi('K'), "abc/d__/ghi", ""}, {from, csi('K', 0), "abc/d__/ghi", ""}, {from, csi('K', 1), "abc/__f/ghi", ""}, {from, csi('K', 2), "abc/___/ghi", ""}, {from, csi('K', 2, 0), "abc/___/ghi", ""},
		{from, csi('J', 3), "=", ""}, {from, csi('J', -1), "=", ""}, {from, csi('J', least), "=", ""}, {from, csi('J', greatest), "=", ""}, {from, csi('K', 3), "=", ""}, {from, csi('K', -1), "=", ""}, {from, csi('K', least), "=", ""}, {from, csi('K', greatest), "=", ""},
		{from, csi('J', 1<<32), "=", ""}, {from, csi('K', 1<<32+2), "=", ""}, {from, csi('K', 256), "=", ""},
		{"abc/W-f/ghi 1,1", csi('K', 0), "abc/.__/ghi", ""}, {"abc/def 0,2+", csi('K'), "ab_/def 0,2", ""},
	})
}

// P17.1: what is put in, taken away, scrolled and erased by counts.
func TestEdits(t *testing.T) {
	const from = "abc/def/ghi 1,1"
	checkDeeds(t, []deed{
		{from, csi('L'), "abc/___/def 1,0", ""}, {from, csi('L', 0), "abc/___/def 1,0", ""}, {from, csi('L', 1), "abc/___/def 1,0", ""}, {from, csi('L', 2), "abc/___/___ 1,0", ""}, {from, csi('L', -1), "abc/ghi/___ 1,0", ""}, {from, csi('L', least), "abc/___/___ 1,0", ""}, {from, csi('L', greatest, 0), "abc/___/___ 1,0", ""},
		{from, csi('M'), "abc/ghi/___ 1,0", ""}, {from, csi('M', 0), "abc/ghi/___ 1,0", ""}, {from, csi('M', 1), "abc/ghi/___ 1,0", ""}, {from, csi('M', 9), "abc/___/___ 1,0", ""}, {from, csi('M', -1), "abc/___/def 1,0", ""}, {from, csi('M', least), "abc/___/___ 1,0", ""}, {from, csi('M', greatest), "abc/___/___ 1,0", ""},
		{"abc/def/ghi 0,1 1-2", csi('L'), "=", ""}, {"abc/def/ghi 0,2+ 1-2", csi('M'), "=", ""},
		{from, csi('@'), "abc/d_e/ghi", ""}, {from, csi('@', 0), "abc/d_e/ghi", ""}, {from, csi('@', 1), "abc/d_e/ghi", ""}, {from, csi('@', 2), "abc/d__/ghi", ""}, {from, csi('@', -1), "abc/df_/ghi", ""}, {from, csi('@', least), "abc/d__/ghi", ""}, {from, csi('@', greatest), "abc/d__/ghi", ""},
		{from, csi('P'), "abc/df_/ghi", ""}, {from, csi('P', 0), "abc/df_/ghi", ""}, {from, csi('P', 1, 2), "abc/df_/ghi", ""}, {from, csi('P', 2), "abc/d__/ghi", ""}, {from, csi('P', -1), "abc/d_e/ghi", ""}, {from, csi('P', least), "abc/d__/ghi", ""}, {from, csi('P', greatest), "abc/d__/ghi", ""},
		{from, csi('X'), "abc/d_f/ghi", ""}, {from, csi('X', 0), "abc/d_f/ghi", ""}, {from, csi('X', 1), "abc/d_f/ghi", ""}, {from, csi('X', 2), "abc/d__/ghi", ""}, {from, csi('X', 3), "abc/d__/ghi", ""}, {from, csi('X', -1), "=", ""}, {from, csi('X', least), "=", ""}, {from, csi('X', greatest), "abc/d__/ghi", ""},
		{from, csi('S'), "def/ghi/___", ""}, {from, csi('S', 0), "def/ghi/___", ""}, {from, csi('S', 2), "ghi/___/___", ""}, {from, csi('S', -1), "___/abc/def", ""}, {from, csi('S', least), "___/___/___", ""}, {from, csi('S', greatest), "___/___/___", ""}, {"abc/def/ghi 0,2+ 1-2", csi('S'), "abc/ghi/___ 0,2", ""},
		{from, csi('T'), "___/abc/def", ""}, {from, csi('T', 0), "___/abc/def", ""}, {from, csi('T', 2), "___/___/abc", ""}, {from, csi('T', -1), "def/ghi/___", ""}, {from, csi('T', least), "___/___/___", ""}, {from, csi('T', greatest), "___/___/___", ""}, {"abc/def/ghi 0,2+ 0-1", csi('T'), "___/abc/ghi 0,2", ""},
	})
}

// P17.1: tabulators that go.
func TestTabs(t *testing.T) {
	const from = "abc 0,1 t0,1,2"
	checkDeeds(t, []deed{
		{from, csi('g'), "= t0,2", ""}, {from, csi('g', 0), "= t0,2", ""}, {from, csi('g', 0, 3), "= t0,2", ""}, {from, csi('g', 3), "= t", ""}, {from, csi('g', 3, 0), "= t", ""}, {"abc 0,1 t0", csi('g'), "= t0", ""}, {"abc 0,2+ t0,2", csi('g'), "= t0", ""},
		{from, csi('g', 1), "=", ""}, {from, csi('g', 2), "=", ""}, {from, csi('g', 4), "=", ""}, {from, csi('g', -1), "=", ""}, {from, csi('g', -3), "=", ""}, {from, csi('g', least), "=", ""}, {from, csi('g', greatest), "=", ""}, {from, csi('g', 1<<32), "=", ""}, {from, csi('g', 256+3), "=", ""},
	})
}

// P17.1: rows that scroll.
func TestRegion(t *testing.T) {
	const from = "a/b/c/d 2,0+ 1-2"
	checkDeeds(t, []deed{
		{from, csi('r'), "= 0,0 0-3", ""}, {from, csi('r', 0, 0), "= 0,0 0-3", ""}, {from, csi('r', 1), "= 0,0 0-3", ""}, {from, csi('r', 2), "= 0,0 1-3", ""}, {from, csi('r', 3, 0), "= 0,0 2-3", ""}, {from, csi('r', 0, 2), "= 0,0 0-1", ""}, {from, csi('r', 2, 3, 1), "= 0,0 1-2", ""}, {from, csi('r', 3, 4), "= 0,0 2-3", ""},
		{from, csi('r', 4), "=", ""}, {from, csi('r', 2, 2), "=", ""}, {from, csi('r', 3, 2), "=", ""}, {from, csi('r', 2, 5), "=", ""}, {from, csi('r', 1, 9999), "=", ""}, {from, csi('r', 0, 1), "=", ""}, {from, csi('r', -1, 3), "=", ""}, {from, csi('r', 2, -1), "=", ""},
		{from, csi('r', least, 3), "=", ""}, {from, csi('r', least, greatest), "=", ""}, {from, csi('r', 1, least), "=", ""}, {from, csi('r', 1, greatest), "=", ""}, {from, csi('r', greatest, least), "=", ""}, {from, csi('r', least, least), "=", ""}, {from, csi('r', 1, 1<<32+3), "=", ""},
		{"a/b/c/d 0,0 origin", csi('r', 2, 3), "= 1,0 1-2", ""}, {"a 0,0+", csi('r'), "=", ""}, {"a 0,0+", csi('r', 1, 1), "=", ""},
	})
	s := fresh(1, 512)
	s.Row = 300
	want := become(s, "= 0,0 510-511")
	checkDo(t, s, csi('r', 511), want, "")
	checkDo(t, s, csi('r', 511, 512), want, "")
	checkDo(t, s, csi('r', 511, 513), s, "")
	checkDo(t, s, csi('r', 512), s, "")
}

// P17.1: the cursor kept and brought back, by parameters too, which count for nothing.
func TestKeep(t *testing.T) {
	checkDeeds(t, []deed{
		{"abc/def 0,1", csi('s'), "= keep", ""}, {"abc/def 0,2+ origin plain", csi('s', 1, 2), "= keep", ""}, {"abc/def 0,1", csi('u'), "= back", ""}, {"abc/def 0,1", csi('u', 0), "= back", ""}, {"abc/def 0,2+ origin under keep 1,1 noorigin plain", csi('u'), "= 0,2+ origin under", ""},
	})
}

// P17.1: styles.
func TestStyle(t *testing.T) {
	s := screenOf("abc/def 0,2+")
	for _, c := range []struct {
		params []int
		want   api.Style
	}{
		{nil, plain()}, {[]int{0}, plain()}, {[]int{4}, api.Style{Fg: 1, Bg: 4, Bold: true, Under: true}}, {[]int{22, 39, 49}, plain()}, {[]int{0, 4}, under()}, {[]int{4, 0}, plain()}, {[]int{38, 5, 200, 7}, api.Style{Fg: 200, Bg: 4, Bold: true, Inverse: true}},
		{[]int{-1}, ground()}, {[]int{least, greatest}, ground()}, {[]int{least, 3, greatest}, api.Style{Fg: 1, Bg: 4, Bold: true, Italic: true}}, {[]int{48, 5, 256}, ground()}, {[]int{38, 5, -1}, ground()}, {[]int{38, 5, least, 97}, api.Style{Fg: 15, Bg: 4, Bold: true}},
		{[]int{1, 2, 3, 4, 5, 7, 8, 9, 31, 42, 33, 44, 35, 46, 37, 100, 91}, api.Style{Fg: 9, Bg: 8, Bold: true, Faint: true, Italic: true, Under: true, Blink: true, Inverse: true, Hidden: true, Struck: true}},
	} {
		want := become(s, "=")
		want.Style = c.want
		checkDo(t, s, csi('m', c.params...), want, "")
	}
	many := make([]int, 5000)
	for i := range many {
		many[i] = 30 + i%8
	}
	want := become(s, "=")
	want.Style.Fg = (len(many) - 1) % 8
	checkDo(t, s, csi('m', many...), want, "")
}

// P17.1: modes, one and several in order, private ones and not.
func TestModes(t *testing.T) {
	const from = "abc/def/ghi 2,2+ 1-2"
	checkDeeds(t, []deed{
		{from, csi('h'), "=", ""}, {from, csi('h', 4), "= insert", ""}, {from, csi('l', 4), "=", ""}, {"abc 0,2+ insert", csi('l', 4), "= noinsert", ""}, {"abc 0,2+ insert", csi('l'), "=", ""}, {from, csi('h', 1, 6, 7, 25, 47, 1047, 1049, 2004), "=", ""}, {from, csi('l', 1, 6, 7, 25, 2004), "=", ""}, {from, csi('h', 0, 4, 0), "= insert", ""},
		{from, question('h'), "=", ""}, {from, question('h', 4), "=", ""}, {from, question('l', 4, 0), "=", ""}, {from, question('l', 1), "= noarrows", ""}, {"abc 0,2+ noarrows", question('h', 1), "= arrows", ""}, {from, question('h', 6), "= 1,0 origin", ""}, {"abc/def/ghi 2,1 1-2 origin", question('l', 6), "= 0,0 noorigin", ""},
		{from, question('l', 7), "= nowrap", ""}, {"abc 0,2+ nowrap", question('h', 7), "= wrap", ""}, {from, question('l', 25), "= novisible", ""}, {"abc 0,2+ novisible", question('h', 25), "= visible", ""}, {from, question('h', 2004), "= paste", ""}, {"abc 0,2+ paste", question('l', 2004), "= nopaste", ""},
		{from, question('l', 1, 7, 25), "= noarrows nowrap novisible", ""}, {from, question('h', 2004, 6, 3), "= paste 1,0 origin", ""}, {from, question('l', 7, 6), "= nowrap 0,0", ""},
		{from, question('h', least, greatest, -1, -6, 1<<32+6, 1<<32+2004, 256+6), "=", ""}, {from, csi('h', least, greatest, -4, 256+4, 1<<32+4), "=", ""},
	})
	// Each mode finds what the one ahead of it made.
	s := screenOf("abc/def 1,1")
	alt := func(s api.Screen) api.Screen {
		s = apart(s)
		s.Alt, s.Main, s.Grid = true, s.Grid, blanksOf(s)
		return s
	}
	checkDo(t, s, question('h', 1049, 47, 1047), alt(become(s, "= keep")), "")
	checkDo(t, s, question('h', 1049, 6), alt(become(s, "= keep 0,0 origin")), "")
	checkDo(t, s, question('h', 6, 1049), alt(become(s, "= 0,0 origin keep")), "")
	kept := alt(become(s, "= 0,0 origin keep 1,2 noorigin under"))
	checkDo(t, kept, question('l', 1049), become(s, "= 0,0 origin keep"), "")
	checkDo(t, kept, question('l', 1049, 6, 1049), become(s, "= 0,0 origin keep noorigin"), "")
	checkDo(t, kept, question('l', 47, 1049), become(s, "= 0,0 origin keep 1,2 noorigin under"), "")
}

// blanksOf is a grid of blanks of the style of s.
func blanksOf(s api.Screen) api.Grid {
	return good(screen.Erase(s, true, 2)).Grid
}

// P17.1: many modes in one list.
func TestManyModes(t *testing.T) {
	s := screenOf("ab/cd 0,1+")
	numbers := make([]int, 2000)
	for i := range numbers {
		numbers[i] = i + 50
	}
	want := become(s, "= paste keep")
	want.Alt, want.Main, want.Grid = true, s.Grid, blanksOf(s)
	checkDo(t, s, question('h', numbers...), want, "")
	checkDo(t, s, csi('h', numbers...), s, "")
}

// P17.1: replies.
func TestReplies(t *testing.T) {
	const from = "abc/def/ghi 1,2+ 1-2"
	checkDeeds(t, []deed{
		{from, csi('n', 5), "=", "&[0n"}, {from, csi('n', 5, 6), "=", "&[0n"}, {from, csi('n', 6), "=", "&[2;3R"}, {from, csi('n', 6, 5), "=", "&[2;3R"}, {"abc/def/ghi 1,2+ 1-2 origin", csi('n', 6), "=", "&[1;3R"}, {"abc/def/ghi 2,0 1-2 origin", csi('n', 6), "=", "&[2;1R"}, {"abc/def/ghi 2,0 0-1 origin", csi('n', 6), "=", "&[3;1R"}, {"abc/def/ghi 1,2+ 1-2 origin", csi('n', 5), "=", "&[0n"}, {"a 0,0", csi('n', 6), "=", "&[1;1R"},
		{from, csi('n'), "=", ""}, {from, csi('n', 0), "=", ""}, {from, csi('n', 0, 6), "=", ""}, {from, csi('n', 4), "=", ""}, {from, csi('n', 7), "=", ""}, {from, csi('n', -5), "=", ""}, {from, csi('n', -6), "=", ""}, {from, csi('n', least), "=", ""}, {from, csi('n', greatest), "=", ""}, {from, csi('n', 256+5), "=", ""}, {from, csi('n', 1<<32+6), "=", ""},
		{from, csi('c'), "=", "&[?62c"}, {from, csi('c', 0), "=", "&[?62c"}, {from, csi('c', 0, 1), "=", "&[?62c"},
		{from, csi('c', 1), "=", ""}, {from, csi('c', 1, 0), "=", ""}, {from, csi('c', -1), "=", ""}, {from, csi('c', least), "=", ""}, {from, csi('c', greatest), "=", ""}, {from, csi('c', 1<<32), "=", ""}, {from, csi('c', 256), "=", ""},
		{from, question('n', 5), "=", ""}, {from, question('n', 6), "=", ""}, {from, question('c'), "=", ""}, {from, question('c', 0), "=", ""},
	})
	// Digits of each length, and a row above Top, where a kept cursor comes back to with Origin.
	s := fresh(512, 512)
	for _, c := range []struct {
		row, col int
		reply    string
	}{{8, 9, "&[9;10R"}, {9, 98, "&[10;99R"}, {98, 99, "&[99;100R"}, {99, 100, "&[100;101R"}, {511, 511, "&[512;512R"}, {299, 19, "&[300;20R"}} {
		s.Row, s.Col = c.row, c.col
		_, reply, e := Do(s, csi('n', 6))
		if e != api.OK || string(reply) != string(bytesOf(c.reply)) {
			t.Errorf("at %d, %d: %q, %d", c.row, c.col, reply, e)
		}
	}
	checkDeeds(t, []deed{
		{"a/b/c/d 1,0 1-3 origin", csi('n', 6), "=", "&[1;1R"}, {"a/b/c/d 0,0 1-3 origin", csi('n', 6), "=", "&[0;1R"}, {"a/b/c/d 0,0 2-3 origin", csi('n', 6), "=", "&[-1;1R"}, {"a/b/c/d 0,0 2-3", csi('n', 6), "=", "&[1;1R"},
	})
	s = fresh(1, 512)
	s.Top, s.Origin = 511, true
	checkDo(t, s, csi('n', 6), s, "&[-510;1R")
}

// P17.1: titles.
func TestTitle(t *testing.T) {
	s := screenOf("abc/def 0,2+")
	long := func(n int) string { return strings.Repeat("abcdefghij", 30)[:n] }
	for _, c := range []struct {
		text, title string
	}{
		{"0;hi", "hi"}, {"2;hi", "hi"}, {"0;", ""}, {"2;", ""}, {"0;;", ";"}, {"2;0;x", "0;x"}, {"0; a ", " a "}, {"2;\u00e9\u4e2d\U0001f600", "\u00e9\u4e2d\U0001f600"}, {"0;a\x00\x07\x1bb", "a\x00\x07\x1bb"},
		{"0;" + long(255), long(255)}, {"0;" + long(256), long(256)}, {"2;" + long(257), long(256)}, {"2;" + long(300), long(256)},
	} {
		want := become(s, "=")
		want.Title = []rune(c.title)
		checkDo(t, s, oscOf(c.text), want, "")
	}
	for _, text := range []string{"", "0", "2", ";", "hi", "1;hi", "3;hi", "4;hi", "00;hi", "02;hi", "20;hi", " 0;hi", "0:hi", "2 ;hi", ";0;hi", "10;hi", "/;hi", "O;hi", "0\u037ehi"} {
		checkDo(t, s, oscOf(text), s, "")
	}
	for _, text := range [][]rune{{'0', -1, ';', 'a'}, {-1, '0', ';', 'a'}, {-48, ';', 'a'}, {'0' + 256, ';', 'a'}, {'0' + 1<<16, ';'}, {'2', ';' + 256, 'a'}, {'2', -1}} {
		checkDo(t, s, osc(text...), s, "")
	}
}

// P17.1: numbers below 0 are left out of a title ahead of counting; others that are no characters are not.
func TestTitleNumbers(t *testing.T) {
	s := screenOf("abc/def 0,2+")
	below := slices.Repeat([]rune{-1, math.MinInt32, -9}, 100)
	letters := []rune(strings.Repeat("abcdefghij", 30))
	mixed := []rune{}
	for _, c := range letters {
		mixed = append(mixed, -c, c)
	}
	for _, c := range []struct{ text, title []rune }{
		{[]rune{-1, 'x', -9, 'y'}, []rune("xy")}, {[]rune{-1}, nil}, {below, nil}, {slices.Concat(below, letters[:3]), letters[:3]}, {mixed, letters[:256]}, {slices.Concat(letters[:256], below), letters[:256]}, {slices.Concat(letters[:255], below, letters[5:]), slices.Concat(letters[:255], letters[5:6])},
		{[]rune{0, 0xd800, 0xdfff, 0x110000, math.MaxInt32, 27}, []rune{0, 0xd800, 0xdfff, 0x110000, math.MaxInt32, 27}},
	} {
		want := become(s, "=")
		want.Title = c.title
		checkDo(t, s, osc(append([]rune("0;"), c.text...)...), want, "")
		checkDo(t, s, osc(append([]rune("2;"), c.text...)...), want, "")
	}
}

// P17.1, P17.3: a new screen but for the Title.
func TestReset(t *testing.T) {
	for _, from := range []string{"abc/def 1,2+ 0-0 nowrap insert origin paste novisible t0,2", "a 0,0", "W-/X= 1,1"} {
		for _, title := range [][]rune{nil, {'x'}, {0, math.MaxInt32}} {
			s := screenOf(from)
			s.Title = title
			want := fresh(s.Grid.Cols, s.Grid.Rows)
			want.Title = title
			checkDo(t, s, esc('c'), want, "")
			s.Alt, s.Main = true, s.Grid
			checkDo(t, s, esc('c'), want, "")
		}
	}
	s := fresh(20, 3)
	s.Tabs = nil
	checkDo(t, s, esc('c'), fresh(20, 3), "")
}

// P17.1: a screen that may not be is refused, whatever the action.
func TestRefused(t *testing.T) {
	actions := []api.Action{{}, printed('a'), printed(-1), executed(10), executed(7), {Kind: 99}, oscOf("0;a"), oscOf("x"), {Kind: api.AEsc, Final: 'c', Mid: []byte("(")}, {Kind: api.ACsi, Final: 'm', Private: '>'}}
	for final := range 256 {
		actions = append(actions, esc(byte(final)), csi(byte(final)), csi(byte(final), least, least), csi(byte(final), greatest), csi(byte(final), 6, 4), csi(byte(final), 5), question(byte(final), 25, 6))
	}
	for i, spoil := range []func(s *api.Screen){
		func(s *api.Screen) { *s = api.Screen{} },
		func(s *api.Screen) { s.Row = 9 },
		func(s *api.Screen) { s.Col = least },
		func(s *api.Screen) { s.Col = greatest },
		func(s *api.Screen) { s.Grid.Rows = least },
		func(s *api.Screen) { s.Grid.Rows = greatest },
		func(s *api.Screen) { s.Grid.Cells = s.Grid.Cells[1:] },
		func(s *api.Screen) { s.Style.Fg = 256 },
		func(s *api.Screen) { s.Title = make([]rune, 257) },
		func(s *api.Screen) { s.Title = []rune{-1} },
		func(s *api.Screen) { s.Pend = true },
		func(s *api.Screen) { s.Alt = true },
		func(s *api.Screen) { s.Tabs = []int{2, 1} },
		func(s *api.Screen) { s.Saved.Row = -1 },
		func(s *api.Screen) { s.Top = 2 },
	} {
		s := screenOf("abc/def 0,1")
		spoil(&s)
		for _, a := range actions {
			if got, reply, e := Do(s, a); e != api.ErrArg || len(reply) != 0 || !equal(got, api.Screen{}) {
				t.Fatalf("%d: Do(%+v) = %s, %q, %d", i, a, tellingOf(got), reply, e)
			}
		}
	}
}
