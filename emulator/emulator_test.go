package emulator

import (
	"math"
	"slices"
	"strings"
	"testing"

	"wayfarer/api"
	"wayfarer/screen"
)

// written is a size, bytes, what a new screen of that size becomes by them, and the replies.
type written struct {
	cols, rows int
	bytes      string
	want       string
	reply      string
}

// checkWritten brings the bytes to new terminals: all at once, one by one, and cut into two at each place, with nothing between.
func checkWritten(t *testing.T, l []written) {
	t.Helper()
	for _, c := range l {
		b := bytesOf(c.bytes)
		want := become(fresh(c.cols, c.rows), c.want)
		m := terminal(t, c.cols, c.rows)
		checkReply(t, c.bytes, m.Write(b), c.reply)
		checkScreen(t, c.bytes, m.Screen(), want)
		single := terminal(t, c.cols, c.rows)
		var replies []byte
		for _, x := range b {
			replies = append(replies, single.Write([]byte{x})...)
		}
		checkReply(t, c.bytes+" one by one", replies, c.reply)
		checkScreen(t, c.bytes+" one by one", single.Screen(), want)
		for cut := range len(b) + 1 {
			parts := terminal(t, c.cols, c.rows)
			replies := parts.Write(b[:cut])
			checkReply(t, c.bytes+" and nothing", parts.Write(nil), "")
			replies = append(replies, parts.Write(b[cut:])...)
			checkReply(t, c.bytes+" in two parts", replies, c.reply)
			checkScreen(t, c.bytes+" in two parts", parts.Screen(), want)
			if parts.Quiet() != m.Quiet() || single.Quiet() != m.Quiet() {
				t.Fatalf("%q in two parts is quiet: %t", b, parts.Quiet())
			}
		}
	}
}

func checkReply(t *testing.T, what string, got []byte, want string) {
	t.Helper()
	if string(got) != string(bytesOf(want)) {
		t.Fatalf("%q replied %q, not %q", what, got, bytesOf(want))
	}
}

// P17.2: the examples of the chapter.
func TestExamples(t *testing.T) {
	checkWritten(t, []written{
		{3, 2, "abcd", "abc/d.. 1,1", ""},
		{3, 2, "a&[2;2Hb&[Ac", "a.c/.b. 0,2+", ""},
		{3, 2, "a&[2;2Hb&[Ac&[6n", "a.c/.b. 0,2+", "&[1;3R"},
	})
}

// P17.2: bytes of each kind of action.
func TestWrite(t *testing.T) {
	checkWritten(t, []written{
		{3, 2, "", "= 0,0", ""}, {3, 2, "ab\rc\nd", "cb./.d. 1,2", ""}, {3, 2, "a\x08b\x0bc\x0c\rd\x09e", ".c./d.e 1,2+", ""}, {3, 1, "a\x00\x07\x0e\x7f\x18\x1ab", "ab. 0,2", ""},
		{3, 2, "a&Db&Ec", ".b./c.. 1,1", ""}, {3, 2, "a&[2;3H&Mb&Mc", "..c/a.b 0,2+", ""}, {3, 1, "a&7b&8c", "ac. 0,1 keep 0,2", ""}, {3, 1, "a&[sb&[uc", "ac. 0,1 keep 0,2", ""}, {3, 1, "a&Hb\rc&[3gd\x09x", "cdx 0,2+ t", ""},
		{3, 3, "&[2;2Ha&[Ab&[Bc&[Dd&[Ce", "..b/.de/... 1,2+", ""}, {3, 3, "&[2Ba&[Fb&[Ec", ".../b../c.. 2,1", ""}, {3, 3, "a&[3Gb&[2`c&[2dd&[3;1fe&[H", "acb/..d/e.. 0,0", ""},
		{3, 2, "abcdef&[1;2H&[K&[B&[1K", "a../..f 1,1", ""}, {3, 2, "abcdef&[1;2H&[J", "a../... 0,1", ""}, {3, 3, "abcdefghi&[2;2H&[L&[3d&[M", "abc/.../... 2,0", ""}, {3, 1, "abc&[2G&[@&[Hd&[P&[Xe", "de. 0,2", ""}, {2, 3, "abcdef&[S&[2T", "../../cd 2,1", ""},
		{3, 3, "&[2;3r&[3Ha\nb\nc&[r", ".../.b./..c 0,0", ""}, {3, 1, "abc&[4h&[Gx&[4ly", "xyb 0,2", ""}, {3, 1, "&[?7;25labcd", "abd 0,2+ nowrap novisible", ""}, {3, 1, "a&[?1;2004hb", "ab. 0,2 arrows paste", ""}, {3, 2, "a&[?1049hb&[?1049lc", "ac./... 0,1 keep 0,2", ""},
		{3, 2, "&[1;31;44mab&[mc", "ABc/... 0,2+", ""}, {3, 2, "&[1;31;44ma&[2J", "___/___ 0,1 ground", ""}, {3, 1, "a&(Bb&#8&[ q&[>m&[1?hc", "abc 0,2+", ""}, {3, 1, "&Pab&\\x&Xab&\\y&^&\\&_a&\\z", "xyz 0,2+", ""},
		{2, 2, "ab&cx", "x./.. 0,1", ""}, {2, 2, "&[?6;1h&[2r&[4h&[31m&Habc&[?47h&cx", "x./.. 0,1", ""}, {3, 2, "a\xcc\x81b", "1b./... 0,2", ""}, {3, 2, "ab\xe4\xb8\xad", "ab./W-. 1,2", ""},
	})
}

// P17.2: many replies in one call, one behind the other.
func TestManyReplies(t *testing.T) {
	checkWritten(t, []written{
		{3, 2, "&[5n&[6n&[c", "= 0,0", "&[0n&[1;1R&[?62c"}, {3, 2, "&[6na&[6nbc&[6nd&[6n", "abc/d.. 1,1", "&[1;1R&[1;2R&[1;3R&[2;2R"}, {3, 3, "&[2;3r&[?6h&[6n&[2H&[6n&[?6l&[6n", "= 0,0 1-2", "&[1;1R&[2;1R&[1;1R"}, {3, 1, "&[n&[7n&[1c&[?6n&[>c&[?5n", "= 0,0", ""},
		{3, 4, "&[?6h&7&[3;4r&8&[6n", "= 0,0 origin keep 2-3", "&[-1;1R"},
	})
	m := terminal(t, 2, 1)
	checkReply(t, "many", m.Write(bytesOf(strings.Repeat("&[5n&[c", 3000))), strings.Repeat("&[0n&[?62c", 3000))
	checkReply(t, "none", m.Write(bytesOf("&[")), "")
	checkReply(t, "one", m.Write(bytesOf("6n")), "&[1;1R")
}

// P17.2: forms of characters that are cut, and bytes that are no form.
func TestForms(t *testing.T) {
	check := func(bytes string, cols int, want ...rune) {
		t.Helper()
		b := []byte(bytes)
		for cut := range len(b) + 1 {
			m := terminal(t, cols, 1)
			m.Write(b[:cut])
			m.Write(b[cut:])
			s := m.Screen()
			var got []rune
			for _, c := range s.Grid.Cells[:s.Col] {
				got = append(got, c.Char)
			}
			if !slices.Equal(got, want) || s.Col != len(want) {
				t.Errorf("%q, cut at %d: %q at %d, not %q", b, cut, got, s.Col, want)
			}
		}
	}
	check("a\xc3\xa9b", 9, 'a', 0xe9, 'b')
	check("\xe2\x82\xac\xf0\x9f\x98\x80", 9, 0x20ac, 0x1f600, 0)
	check("\xff\xc0\x80a\xf5", 9, 65533, 65533, 65533, 'a', 65533)
	check("\xe2\x82a\xc3\xc3\xa9\xf0\x9f\x98", 9, 65533, 'a', 65533, 0xe9)
	check("\xe2\x82\x1b[3Gb", 9, 65533, 32, 'b')
	check("\xc2\x80\xc2\x9f\xc2\x9b1mx\xc2\xa0", 9, '1', 'm', 'x', 0xa0)
	check("\xed\xa0\x80\xf4\x90\x80\x80", 9, 65533, 65533, 65533, 65533, 65533, 65533, 65533)
	// A replacement within a sequence ends it, and is not printed.
	check("\x1b[\xff3Gb", 9, '3', 'G', 'b')
	check("\x1b[3\xc3Gb", 9, 'G', 'b')
	check("\x1b\xc3\xa9b", 9, 'b')
}

// P17.2: titles, of bytes cut anywhere.
func TestTitles(t *testing.T) {
	long := strings.Repeat("abcdefghij", 30)
	for _, c := range []struct{ bytes, title string }{
		{"&]0;hi\a", "hi"}, {"&]2;hi&\\", "hi"}, {"&]2;\xc3\xa9\xff\a", "\u00e9\ufffd"}, {"&]0;a\a&]1;no\a", "a"}, {"&]0;a\a&]2\a&]\a&]0\a", "a"}, {"&]0;a\a&]0;\a", ""}, {"&]0;a\a&c", "a"}, {"&]2;a&c", "a"}, {"&]0;a\x18&]2;b\x1a", ""}, {"&]0;a", ""}, {"&]0;a\nb\x7fc\a", "abc"},
		{"&]0;" + long[:253] + "\a", long[:253]}, {"&]0;" + long[:254] + "\a", long[:254]}, {"&]0;" + long[:255] + "\a", long[:254]}, {"&]0;" + long + "\a", long[:254]},
	} {
		b := bytesOf(c.bytes)
		for cut := range len(b) + 1 {
			m := terminal(t, 2, 1)
			m.Write(b[:cut])
			m.Write(b[cut:])
			want := fresh(2, 1)
			want.Title = []rune(c.title)
			checkScreen(t, c.bytes, m.Screen(), want)
		}
	}
}

// P17.2: New at and past the bounds of each side.
func TestNew(t *testing.T) {
	sides := []int{math.MinInt, -1 << 32, -512, -1, 0, 1, 2, 9, 80, 511, 512, 513, 1024, 1 << 16, 1<<32 + 1, math.MaxInt}
	for _, cols := range sides {
		for _, rows := range sides {
			m, e := New(cols, rows)
			if cols < 1 || cols > 512 || rows < 1 || rows > 512 {
				if m != nil || e != api.ErrArg {
					t.Fatalf("New(%d, %d) = %v, %d", cols, rows, m, e)
				}
				continue
			}
			if m == nil || e != api.OK || !m.Quiet() {
				t.Fatalf("New(%d, %d) = %v, %d", cols, rows, m, e)
			}
			if cols < 100 || rows < 100 {
				checkScreen(t, "New", m.Screen(), fresh(cols, rows))
			} else if !screen.Same(m.Screen(), fresh(cols, rows)) {
				t.Fatalf("New(%d, %d) has another screen", cols, rows)
			}
		}
	}
}

// P17.2: the greatest terminal, at its corner.
func TestGreatest(t *testing.T) {
	m := terminal(t, 512, 512)
	checkReply(t, "", m.Write(bytesOf("&[9999;9999Hab&[6n")), "&[512;2R")
	s := m.Screen()
	if s.Grid.Cells[512*511-1].Char != 'a' || s.Grid.Cells[512*511].Char != 'b' || s.Row != 511 || s.Col != 1 {
		t.Errorf("%d, %d", s.Row, s.Col)
	}
	if e := m.Resize(1, 512); e != api.OK || !screen.Same(m.Screen(), good(screen.Resize(s, 1, 512))) {
		t.Errorf("Resize = %d", e)
	}
}

// P17.2: another size, also between the bytes of a sequence, of a character's form; a size that may not be changes nothing.
func TestResize(t *testing.T) {
	for _, c := range []struct {
		ahead, behind string
		cols, rows    int
		want          string // of a new screen of that size
		reply         string
	}{
		{"abcdef", "x", 2, 3, "ab/dx/.. 1,1+", ""}, {"abcdef", "", 2, 1, "ab 0,1", ""}, {"abc", "x", 4, 2, "abx./.... 0,3", ""}, {"abc", "x", 3, 2, "abx/... 0,2+", ""}, {"", "", 9, 1, "= 0,0 t8", ""},
		{"&[2;", "3Hx", 4, 3, "..../..x./.... 1,3", ""}, {"&[6", "n", 1, 1, "= 0,0", "&[1;1R"}, {"&[2;3H&[6", "n", 2, 1, "= 0,1", "&[1;2R"}, {"&", "[2Gx", 2, 1, ".x 0,1+", ""}, {"&[2;3r&[3H\n&[", "3Hx", 2, 3, "../../x. 2,1", ""},
		{"\xe4\xb8", "\xad", 4, 1, "W-.. 0,2", ""}, {"\xe4", "\xb8\xad", 2, 1, "W- 0,1+", ""}, {"a\xcc", "\x81", 3, 1, "1.. 0,1", ""},
	} {
		m := terminal(t, 3, 3)
		m.Write(bytesOf(c.ahead))
		kept, quiet := m.Screen(), m.Quiet()
		for _, sides := range [][2]int{{0, 1}, {1, 0}, {-1, 3}, {3, math.MinInt}, {513, 3}, {3, 513}, {math.MaxInt, math.MaxInt}, {1<<32 + 3, 3}, {3, 1<<32 + 3}} {
			if e := m.Resize(sides[0], sides[1]); e != api.ErrArg || m.Quiet() != quiet {
				t.Fatalf("Resize(%d, %d) = %d", sides[0], sides[1], e)
			}
			checkScreen(t, "a size that may not be", m.Screen(), kept)
		}
		if e := m.Resize(c.cols, c.rows); e != api.OK || m.Quiet() != quiet {
			t.Fatalf("Resize(%d, %d) = %d", c.cols, c.rows, e)
		}
		checkScreen(t, "Resize", m.Screen(), good(screen.Resize(kept, c.cols, c.rows)))
		checkReply(t, c.behind, m.Write(bytesOf(c.behind)), c.reply)
		checkScreen(t, c.ahead+" and "+c.behind, m.Screen(), become(fresh(c.cols, c.rows), c.want))
	}
	m := terminal(t, 3, 2)
	m.Write(bytesOf("abc&[?1049hd&[1;31;44m&[2;3r"))
	s := m.Screen()
	if e := m.Resize(4, 3); e != api.OK {
		t.Errorf("Resize = %d", e)
	}
	checkScreen(t, "with the other grid", m.Screen(), good(screen.Resize(s, 4, 3)))
}

// begun is bytes behind which a terminal is not quiet, each with bytes that end what they begin.
func begun() [][2]string {
	return [][2]string{
		{"&", "7"}, {"a&", "\x18"}, {"&&", "c"}, {"&(", "B"}, {"&((", "\x1a"}, {"&(((", "B"}, {"&[", "m"}, {"&[1", "m"}, {"&[1;", "m"}, {"&[?", "h"}, {"&[ ", "q"}, {"&[1?", "h"}, {"&[\n", "m"},
		{"&]", "\a"}, {"&]0;a", "\a"}, {"&]0;a\n", "\x18"}, {"&P", "&\\"}, {"&X\a", "&\\"}, {"&^", "\x18"}, {"&_a", "\x1ab"}, {"&]0;a&", "\\"},
		{"\xc3", "\xa9"}, {"\xe2", "a"}, {"\xe2\x82", "\xac"}, {"\xf0\x9f", "\xff"}, {"\xf0\x9f\x98", "\x80"}, {"&[1\xc3", "\xa9"}, {"&]0;\xc3", "\xa9\a"}, {"&\xe2\x82", "\xac"}, {"&c\xc3", "\n"}, {"&[m\xc3", "m"},
	}
}

// P17.2: Quiet in each state.
func TestQuiet(t *testing.T) {
	for _, quiet := range []string{"", "a", "\n", "\xc3\xa9", "\xff", "\x18", "\x1a", "&7", "&(B", "&[m", "&[1;2m", "&]0;a\a", "&P&\\", "&[\x18", "&\xff", "\xe2\x82a", "\x7f", "\xc2\x85"} {
		m := terminal(t, 3, 2)
		m.Write(bytesOf(quiet))
		if !m.Quiet() {
			t.Errorf("behind %q it is not quiet", quiet)
		}
	}
	for _, c := range begun() {
		m := terminal(t, 3, 2)
		m.Write(bytesOf(c[0]))
		if m.Quiet() || m.Quiet() {
			t.Errorf("behind %q it is quiet", c[0])
		}
		m.Write(nil)
		m.Screen()
		m.Resize(2, 2)
		if m.Quiet() {
			t.Errorf("behind %q it is quiet, and nothing was written", c[0])
		}
		m.Write(bytesOf(c[1]))
		if !m.Quiet() {
			t.Errorf("behind %q and %q it is not quiet", c[0], c[1])
		}
	}
}

// P17.2: a copy stands as the terminal does, and goes its own way.
func TestCopy(t *testing.T) {
	ways := []string{"", "a", "\xa9b", "\xac\x80", "m", "2;2Hx", "\\", "7b&8c", "[1;31mx", "\ab&[6n", "c", "&cx", "\x18y"}
	for _, c := range begun() {
		for i, way := range ways {
			other := ways[(i+1)%len(ways)]
			m := terminal(t, 3, 2)
			m.Write(bytesOf("x&]2;t\a" + c[0]))
			n := m.Copy()
			if n == nil || n == m {
				t.Fatalf("Copy = %v", n)
			}
			checkScreen(t, "Copy", n.Screen(), m.Screen())
			if m.Quiet() || n.Quiet() {
				t.Fatalf("behind %q it is quiet, or its copy is", c[0])
			}
			// One byte each in turn, so that what they shared would come to the other one.
			first, second := slowNew(3, 2), slowNew(3, 2)
			first.write(bytesOf("x&]2;t\a" + c[0]))
			second.write(bytesOf("x&]2;t\a" + c[0]))
			a, b := bytesOf(way), bytesOf(other)
			for k := range max(len(a), len(b)) {
				if k < len(a) {
					checkReply(t, way, m.Write(a[k:k+1]), first.write(a[k:k+1]))
				}
				if k < len(b) {
					checkReply(t, other, n.Write(b[k:k+1]), second.write(b[k:k+1]))
				}
				checkScreen(t, c[0]+" and "+way, m.Screen(), first.screen)
				checkScreen(t, c[0]+" and "+other+" to the copy", n.Screen(), second.screen)
				if m.Quiet() != first.quiet || n.Quiet() != second.quiet {
					t.Fatalf("%q and %q: quiet is %t; %q to the copy: %t", c[0], a[:min(k+1, len(a))], m.Quiet(), b[:min(k+1, len(b))], n.Quiet())
				}
			}
		}
	}
	m := terminal(t, 3, 2)
	m.Write([]byte("abc"))
	n := m.Copy()
	if n.Resize(2, 2) != api.OK || m.Screen().Grid.Cols != 3 || n.Screen().Grid.Cols != 2 {
		t.Error("another size of the copy is the terminal's")
	}
	if m.Resize(4, 4) != api.OK || n.Screen().Grid.Cols != 2 {
		t.Error("another size of the terminal is the copy's")
	}
}

// P17.2: calls of one that is not there.
func TestNotThere(t *testing.T) {
	for _, m := range []*Emulator{nil, {}} {
		for _, b := range [][]byte{nil, {}, []byte("a"), bytesOf("&[6n&[c"), {0xc3}} {
			if l := m.Write(b); len(l) != 0 {
				t.Errorf("Write(%q) = %q", b, l)
			}
		}
		for _, sides := range [][2]int{{1, 1}, {80, 24}, {0, 0}, {513, math.MinInt}} {
			if e := m.Resize(sides[0], sides[1]); e != api.ErrNil {
				t.Errorf("Resize(%d, %d) = %d", sides[0], sides[1], e)
			}
		}
		if !equal(m.Screen(), api.Screen{}) || m.Quiet() || m.Copy() != nil {
			t.Errorf("%s, %t, %v", tellingOf(m.Screen()), m.Quiet(), m.Copy())
		}
	}
}

// P17.3: behind 27 c the screen is a new one but for its Title, in whatever state these come.
func TestResetBehind(t *testing.T) {
	for _, c := range append(begun(), [2]string{"", ""}, [2]string{"ab\xff", ""}, [2]string{"&[?1049h&[?6;2004;1h&[?7;25l&[4h&[2r&H&[3;44mabc", ""}) {
		for _, title := range []string{"", "&]2;title\a"} {
			m := terminal(t, 3, 3)
			m.Write(bytesOf("&[2;2Hxyz&[1m&7" + title + c[0]))
			m.Write(bytesOf("&c"))
			got := m.Screen()
			want := fresh(3, 3)
			if title != "" {
				want.Title = []rune("title")
			}
			if strings.HasPrefix(c[0], "&]0;") {
				// The command is told ahead of what ends it.
				want.Title = []rune(strings.NewReplacer("&]0;", "", "\n", "", "&", "", "\xc3", "\ufffd").Replace(c[0]))
			}
			checkScreen(t, c[0]+" and 27 c", got, want)
			if !m.Quiet() || got.Row != 0 || got.Col != 0 {
				t.Errorf("%q and 27 c: %d, %d, quiet: %t", c[0], got.Row, got.Col, m.Quiet())
			}
		}
	}
}
