package host

import (
	"slices"
	"strings"
	"testing"

	"wayfarer/api"
	"wayfarer/model"
)

// P22.2: the examples of the chapter.
func TestExamples(t *testing.T) {
	bare := shown(t, 3, 1, "", 0)
	h, e := checkApply(t, bare, checkDiff(t, bare, shown(t, 3, 1, "ab", 4)))
	if text, _ := model.Text(h.Screen); e != api.OK || text != "ab\n" || h.Echo != 4 || h.Screen.Col != 2 {
		t.Errorf("%s, %d", tellingState(h), e)
	}
	h, e = checkApply(t, bare, []byte{5, 2, 1, 'a', 'b'})
	if text, _ := model.Text(h.Screen); e != api.OK || text != "ab\n" || h.Echo != 5 || h.Screen.Grid.Cols != 2 || h.Screen.Grid.Rows != 1 || h.Screen.Row != 0 || h.Screen.Col != 1 {
		t.Errorf("%s, %d", tellingState(h), e)
	}
	checkNoState(t, bare, []byte{5, 0, 1}, api.ErrForm)
	checkNoState(t, bare, []byte{0x80}, api.ErrShort)
}

// checkNoState holds Apply to an error, beside which there is nothing.
func checkNoState(t *testing.T, a api.Host, diff []byte, want api.Errno) {
	t.Helper()
	if h, e := checkApply(t, a, diff); e != want || !sameState(h, api.Host{}) {
		t.Errorf("Apply(%s, %q) = %s, %d, not %d", tellingState(a), short(textOf(diff)), tellingState(h), e, want)
	}
}

// stated is a difference's bytes of the size 3, 2 and Echo 9, and what they make of a state.
type stated struct {
	from, bytes, want string
}

func checkStated(t *testing.T, l []stated) {
	t.Helper()
	for _, c := range l {
		h, e := checkApply(t, stateOf(c.from, 1<<40), diffOf(9, 3, 2, c.bytes))
		if want := stateOf(c.want, 9); e != api.OK || !sameState(h, want) {
			t.Errorf("Apply(%s, %q) = %s, %d, not %s", c.from, c.bytes, tellingState(h), e, c.want)
		}
	}
}

// P22.2: bytes behind the same size, and none.
func TestApply(t *testing.T) {
	checkStated(t, []stated{
		{"abc/def 1,1", "", "abc/def 1,1"}, {"abc/def 1,1", "x", "abc/dxf 1,2"}, {"abc/def 1,2", "x", "abc/dex 1,2"}, {"abc/def 1,2", "xy", "dex/y.. 1,1"}, {"abc/def 0,2", "x", "abx/def 0,2"},
		{"W-c/def 0,0", "a", "a.c/def 0,1"}, {"abc/def 0,2", "\u4e2d", "abc/W-f 1,2"}, {"abc/def 0,1", "\u0301", "1bc/def 0,1"}, {"abc/def", "&[1;31;44ma", "Abc/def 0,1"}, {"ABC/def 0,1", "x", "AxC/def 0,2"},
		{"abc/def 1,1", "&[H&[J", ".../... 0,0"}, {"abc/def novisible arrows", "&[?25h&[?1l&[?2004h", "abc/def paste"}, {"abc/def arrows paste", "&[?25l", "abc/def arrows paste novisible"}, {"abc/def 1,2", "&c", ".../... 0,0"},
		{"abc/def 1,1", "\r\n\b\t", "def/... 1,2"}, {"abc/def 1,1", "&[6n&[5n&[c", "abc/def 1,1"}, {"abc/def 1,1", "&[L", "abc/... 1,0"}, {"abc/def 0,1", "&[P&[@", "a.c/def 0,1"},
	})
}

// P22.2: what a state does not bear is the terminal's while it is handed the bytes, and no longer.
func TestApplyLeft(t *testing.T) {
	checkStated(t, []stated{
		{"abc/def 0,1", "&[4hx", "axb/def 0,2"}, {"abc/def", "&[?7l&[Cxyz", "axz/def 0,2"}, {"abc/def", "&[?7l", "abc/def"}, {"abc/def 1,1", "&[1;31;44m", "abc/def 1,1"}, {"abc/def 1,1", "&[1;31;44ma", "abc/dAf 1,2"}, {"abc/def 1,1", "&[?6h", "abc/def 0,0"},
		{"abc/def 1,1", "&7&[H", "abc/def 0,0"}, {"abc/def 1,1", "&7&[H&8x", "abc/dxf 1,2"}, {"abc/def 1,1", "&8x", "xbc/def 0,1"}, {"abc/def 0,1", "&H&[3g", "abc/def 0,1"}, {"abc/def", "&[C&H\r\tx", "axc/def 0,2"},
		{"abc/def", "&[?1049hx", "x../... 0,1"}, {"abc/def 1,1", "&[?1049hx&[?1049l", "abc/def 1,1"}, {"abc/def 1,1", "&[?47h", ".../... 1,1"},
	})
	// Of each of these as many terminals are made as there are calls: none knows of what another one was handed.
	h := stateOf("abc/def", 0)
	for _, bytes := range []string{"&[4h", "&[?7l", "&[1m", "&[3g", "&[?1049h", "&[", "\xe4\xb8", "&]2;", "&[2;2H&7", "&[?6h"} {
		first, _ := checkApply(t, h, diffOf(1, 3, 2, bytes))
		for _, behind := range []string{"x", "m", "\xad", "tea\a", "\tx", "&8x"} {
			checkApply(t, first, diffOf(2, 3, 2, behind))
			checkApply(t, h, diffOf(2, 3, 2, behind))
		}
	}
}

// P22.2: bytes that are no whole character or sequence, and bytes that are none of the terminal's.
func TestApplyParts(t *testing.T) {
	checkStated(t, []stated{
		{"abc/def", "\xe4", "abc/def"}, {"abc/def", "x\xe4\xb8", "xbc/def 0,1"}, {"abc/def", "\xff", "Rbc/def 0,1"}, {"abc/def", "\xe4x", "Rxc/def 0,2"}, {"abc/def", "x&", "xbc/def 0,1"}, {"abc/def", "x&[1;3", "xbc/def 0,1"}, {"abc/def", "x&]2;tea", "xbc/def 0,1"},
		{"abc/def", "x&Ptea", "xbc/def 0,1"}, {"abc/def", "&[ q&#8&(B&[>c&[?9hx", "xbc/def 0,1"}, {"abc/def", "\x00\x07\x7f\x18x", "xbc/def 0,1"}, {"abc/def", "\u0085x", "xbc/def 0,1"},
	})
	h := stateOf("aW-/X=1 1,2 arrows", 3)
	for x := range 256 {
		checkApply(t, h, diffOf(0, 3, 2, string([]byte{byte(x)})))
		checkApply(t, h, diffOf(0, 3, 2, string([]byte{byte(x), byte(x)})))
		checkApply(t, h, diffOf(0, 4, 1, "&["+string([]byte{byte(x)})))
		checkApply(t, h, diffOf(0, 4, 1, "&[2;3"+string([]byte{byte(x)})+"x"))
	}
}

// P22.2: titles, those that no state has among them, which leave none.
func TestApplyTitles(t *testing.T) {
	long := string(runes(254, 'a'))
	for _, c := range []struct{ bytes, want string }{
		{"", "old"}, {"&]2;tea\a", "tea"}, {"&]0;tea&\\", "tea"}, {"&]2;\a", ""}, {"&]1;tea\a", "old"}, {"&]2;\xff\a", "\ufffd"}, {"&]2;" + long + "\a", long}, {"&]2;" + long + "b\a", long}, {"&c", "old"}, {"&]2;tea", "old"}, {"&]2;\u4e2d\a&]2;\u4e2d\u0301\a", "\u4e2d\u0301"},
	} {
		h := stateOf("abc/def", 0)
		h.Screen.Title = []rune("old")
		got, e := checkApply(t, h, diffOf(1, 3, 2, c.bytes))
		if e != api.OK || string(got.Screen.Title) != c.want {
			t.Errorf("%q: the title %q, %d", c.bytes, string(got.Screen.Title), e)
		}
		got, e = checkApply(t, h, diffOf(1, 9, 1, c.bytes))
		if e != api.OK || string(got.Screen.Title) != c.want {
			t.Errorf("%q in another size: the title %q, %d", c.bytes, string(got.Screen.Title), e)
		}
	}
}

// P22.2: another size, with bytes behind it and with none.
func TestApplySize(t *testing.T) {
	for _, c := range []struct {
		from       string
		cols, rows uint64
		bytes      string
		want       string
	}{
		{"abc/def 1,2", 2, 3, "", "ab/de/.. 1,1"}, {"abc/def 1,2", 2, 3, "xyz", "ab/dx/yz 2,1"}, {"abc/def 1,2", 4, 1, "", "abc. 0,2"}, {"abc/def 1,2", 4, 1, "x", "abx. 0,3"}, {"aW-/W-f 0,1", 2, 2, "", "a./W- 0,1"}, {"aW-/W-f 1,2", 1, 2, "x", "a/x 1,0"},
		{"abc/def", 9, 1, "\tx", "abc.....x 0,8"}, {"abc/def", 10, 1, "\tx", "abc.....x. 0,9"}, {"abcdefghix", 3, 1, "\tx", "abx 0,2"}, {"AB/CD 1,1", 3, 3, "", "AB./CD./... 1,1"}, {"abc/def 1,1 arrows novisible", 1, 1, "", "a arrows novisible"}, {"abc/def 1,1", 3, 3, "\n\n", "def/.../... 2,1"},
	} {
		h, e := checkApply(t, stateOf(c.from, 0), diffOf(7, c.cols, c.rows, c.bytes))
		if want := stateOf(c.want, 7); e != api.OK || !sameState(h, want) {
			t.Errorf("Apply(%s, %d %d %q) = %s, %d, not %s", c.from, c.cols, c.rows, c.bytes, tellingState(h), e, c.want)
		}
	}
	for _, size := range [][2]uint64{{1, 1}, {512, 1}, {1, 512}, {511, 2}, {512, 512}} {
		for _, bytes := range []string{"", "x", "&[9999;9999Hxy"} {
			h, e := checkApply(t, stateOf("aW-/X=1 1,2 paste", 0), diffOf(1, size[0], size[1], bytes))
			if e != api.OK || h.Screen.Grid.Cols != int(size[0]) || h.Screen.Grid.Rows != int(size[1]) {
				t.Errorf("of %v: %d", size, e)
			}
		}
	}
}

// P22.2: sizes that layer 15 does not allow, at the edges of all that a number may be; whatever stands behind.
func TestApplyNoSize(t *testing.T) {
	sides := []uint64{0, 1, 3, 511, 512, 513, 1024, 1<<15 + 3, 1<<16 + 3, 1<<31 - 1, 1 << 31, 1<<32 + 3, 1<<63 - 1, 1 << 63, 1<<63 + 3, 1<<64 - 3, 1<<64 - 1}
	for _, cols := range sides {
		for _, rows := range sides {
			for _, bytes := range []string{"", "x", "&["} {
				isSize := cols >= 1 && cols <= 512 && rows >= 1 && rows <= 512
				if isSize && (cols > 3 && rows > 3 || bytes == "&[") {
					continue
				}
				h, e := Apply(stateOf("abc/def", 1), diffOf(5, cols, rows, bytes))
				if isSize != (e == api.OK) || !isSize && (e != api.ErrForm || !sameState(h, api.Host{})) {
					t.Errorf("of %d, %d: %s, %d", cols, rows, tellingState(h), e)
				}
			}
		}
	}
}

// badForms is bytes that are no number's form, and what they are.
func badForms() []struct {
	form string
	e    api.Errno
} {
	ff := strings.Repeat("\xff", 12)
	return []struct {
		form string
		e    api.Errno
	}{
		{"", api.ErrShort}, {"\x80", api.ErrShort}, {"\xff\x80", api.ErrShort}, {ff[:9], api.ErrShort},
		{"\x80\x00", api.ErrForm}, {"\x85\x80\x00", api.ErrForm}, {ff[:9] + "\x02", api.ErrForm}, {ff[:9] + "\x7f", api.ErrForm}, {ff[:10], api.ErrForm}, {ff, api.ErrForm}, {ff[:10] + "\x01", api.ErrForm}, {strings.Repeat("\x80", 9) + "\x00", api.ErrForm},
	}
}

// P22.2: each error of each of the three numbers, whatever the ones ahead of it and what stands behind it.
func TestApplyForms(t *testing.T) {
	a := stateOf("abc/def", 1)
	for _, bad := range badForms() {
		for _, ahead := range []string{"", "\x00", "\x05", number(1<<64 - 1), "\x05\x03", "\x05\x00", "\x05\x81\x04", "\x05" + number(1<<64-1), number(1<<63) + "\x01"} {
			checkNoState(t, a, []byte(ahead+bad.form), bad.e)
			if bad.e == api.ErrForm {
				for _, behind := range []string{"\x00", "\x03\x02", "\x80", "\x80\x00", "\xff", "\x01\x01\x01\x01abc", strings.Repeat("\x80", 20)} {
					checkNoState(t, a, []byte(ahead+bad.form+behind), bad.e)
				}
			}
		}
		// In the place of the fourth number they are bytes.
		if h, e := checkApply(t, a, []byte("\x05\x03\x02"+bad.form)); e != api.OK || h.Echo != 5 {
			t.Errorf("behind the numbers %q: %s, %d", bad.form, tellingState(h), e)
		}
	}
	for _, echo := range echoes() {
		if h, e := checkApply(t, a, diffOf(echo, 3, 2, "")); e != api.OK || h.Echo != echo {
			t.Errorf("of the Echo %d: %s, %d", echo, tellingState(h), e)
		}
	}
	for size := range 40 {
		whole := diffOf(1<<64-1, 300, 200, "")
		if size < len(whole) {
			checkNoState(t, a, whole[:size], api.ErrShort)
		}
	}
}

// P22.2: a state that may not be, with a difference that may not be read either, or is too long.
func TestApplyRefused(t *testing.T) {
	good := diffOf(1, 3, 2, "abc")
	for _, base := range bases() {
		for _, c := range append(unborne(), broken()...) {
			h := changedBy(base, c.by)
			for _, diff := range [][]byte{good, good[:3], nil, {0x80}, {5, 0, 1}, {5, 0x80, 0}, make([]byte, 65537), slices.Repeat([]byte{0xff}, 70000)} {
				if got, e := Apply(h, diff); e != api.ErrArg || !sameState(got, api.Host{}) {
					t.Errorf("%s: Apply = %s, %d", c.name, tellingState(got), e)
				}
			}
		}
	}
}

// P22.2: MaxBytes bytes, and one more, ahead of whether they can be read.
func TestApplyLimit(t *testing.T) {
	t.Parallel()
	a := stateOf("abc/def", 1)
	for _, c := range []struct {
		begin string
		fill  string
		e     api.Errno
	}{
		{"\x05\x03\x02", "a", api.OK}, {"\x05\x02\x01", "a", api.OK}, {"\x05\x03\x02", "\x00", api.OK}, {"\x05\x03\x02", "\xff", api.OK}, {number(1<<64 - 1), "\x01", api.OK}, {"\x05\x00\x02", "a", api.ErrForm}, {"\x05\x80\x00", "a", api.ErrForm}, {"", "\xff", api.ErrForm}, {"", "\x00", api.ErrForm},
	} {
		long := []byte(c.begin + strings.Repeat(c.fill, 70000))
		if _, e := checkApply(t, a, long[:65536]); e != c.e {
			t.Errorf("%q and so on: %d", c.begin, e)
		}
		checkNoState(t, a, long[:65537], api.ErrLimit)
		checkNoState(t, a, long, api.ErrLimit)
	}
}
