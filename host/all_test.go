package host

import (
	"testing"

	"wayfarer/api"
	"wayfarer/emulator"
	"wayfarer/screen"
)

// rowsOf is all pictures of a row of so many signs that may be, by halves of wide ones.
func rowsOf(count int, signs string) (l []string) {
	var lay func(picture string)
	lay = func(picture string) {
		if len(picture) < count {
			for _, sign := range []byte(signs) {
				lay(picture + string(sign))
			}
			return
		}
		if screen.May(api.Screen{Grid: gridOf(picture)}) {
			l = append(l, picture)
		}
	}
	lay("")
	return l
}

// P22.2, P22.3: all pairs of small states.
func TestAllSmall(t *testing.T) {
	t.Parallel()
	var l []api.Host
	for _, picture := range append(append(rowsOf(1, ".aA1"), rowsOf(2, ".aAW-X=")...), rowsOf(3, ".AW-")...) {
		l = append(l, stateOf(picture, uint64(len(l)*50)), stateOf(picture+"/"+picture+" arrows 1,0", 3))
	}
	for _, a := range l {
		for _, b := range l {
			checkDiff(t, a, b)
		}
	}
}

// scraps is what bytes that look like chance are put together of.
func scraps() []string {
	return []string{
		"a", "b", " ", "   ", "\u00e9", "\u4e2d", "\U0001f600", "\u0301", "\u0302", "\r", "\n", "\r\n", "\t", "\b", "\xff", "\xe4\xb8", "\xad", "&", "&[", "&[2;", "&]2;", "abc", "word ",
		"&[m", "&[1;31m", "&[41m", "&[38;5;99m", "&[7m", "&[K", "&[1K", "&[J", "&[2J", "&[H", "&[2;3H", "&[3;5H", "&[A", "&[C", "&[2L", "&[M", "&[@", "&[2P", "&[X", "&[S", "&[T",
		"&[?25l", "&[?25h", "&[?7l", "&[?7h", "&[4h", "&[4l", "&[?6h", "&[?6l", "&[2;3r", "&[r", "&[?1049h", "&[?1049l", "&[?47h", "&7", "&8", "&c", "&H", "&[3g", "&[6n", "&[c",
		"&]2;tea\x07", "&]0;\x07", "&]2;\u4e2d\x07", "&]2;" + string(runes(255, 'b')) + "\x07", "&[?1h", "&[?1l", "&[?2004h", "&[?2004l",
	}
}

// scrapsOf is so many of them.
func scrapsOf(n *noise, count int) (text string) {
	for range count {
		text += pick(n, scraps())
	}
	return text
}

// P22.2, P22.3: states of a terminal that is handed bytes that look like chance, and gets other sizes: what is told one behind the other comes to the last state.
func TestChance(t *testing.T) {
	t.Parallel()
	n := noise(22)
	for range 300 {
		m, _ := emulator.New(1+n.below(9), 1+n.below(5))
		h := checkOf(t, m.Screen(), 0)
		there := h
		for range 12 {
			m.Write(bytesOf(scrapsOf(&n, n.below(20))))
			if n.below(4) == 0 {
				m.Resize(1+n.below(9), 1+n.below(5))
			}
			next := checkOf(t, m.Screen(), h.Echo+uint64(n.below(3)))
			diff := checkDiff(t, h, next)
			got, e := Apply(there, diff)
			if e != api.OK || !sameState(got, next) {
				t.Fatalf("one behind the other: %s, %d, not %s", tellingState(got), e, tellingState(next))
			}
			h, there = next, got
		}
	}
}

// P22.2, P22.3: differences from a state to each of many, and on from these.
func TestBranches(t *testing.T) {
	t.Parallel()
	n := noise(23)
	for range 60 {
		l := make([]api.Host, 7)
		for i := range l {
			l[i] = shown(t, 1+n.below(7), 1+n.below(4), scrapsOf(&n, n.below(30)), n.next())
		}
		for _, a := range l {
			for _, b := range l {
				checkDiff(t, a, b)
			}
		}
	}
}

// P22.2, P22.3: whatever bytes a difference has, what comes may be, and differences may be told to it and from it.
func TestWhateverBytes(t *testing.T) {
	t.Parallel()
	n := noise(24)
	for range 1500 {
		a := shown(t, 1+n.below(7), 1+n.below(4), scrapsOf(&n, n.below(20)), n.next())
		h, e := checkApply(t, a, diffOf(n.next()>>n.below(40), uint64(1+n.below(9)), uint64(1+n.below(5)), scrapsOf(&n, n.below(25))))
		if e != api.OK {
			t.Fatalf("Apply answers %d", e)
		}
		checkDiff(t, a, h)
		checkDiff(t, h, a)
	}
}

// P22.2, P22.3: differences of which bytes were cut, changed and put in, and bytes that were never one.
func TestHostile(t *testing.T) {
	t.Parallel()
	n := noise(25)
	ok := 0
	for range 1500 {
		a := shown(t, 1+n.below(5), 1+n.below(3), scrapsOf(&n, n.below(10)), n.next())
		diff := checkDiff(t, a, shown(t, 1+n.below(5), 1+n.below(3), scrapsOf(&n, n.below(10)), n.next()>>n.below(32)))
		at := n.below(len(diff))
		switch n.below(5) {
		case 0:
			diff = diff[:at]
		case 1:
			diff[at] ^= 1 << n.below(8)
		case 2:
			diff = append(diff[:at:at], diff[min(at+1+n.below(4), len(diff)):]...)
		case 3:
			diff = append(diff[:at:at], append([]byte{byte(n.next())}, diff[at:]...)...)
		case 4:
			for i := range diff {
				diff[i] = byte(n.next())
			}
		}
		if h, e := checkApply(t, a, diff); e == api.OK {
			ok++
			checkDiff(t, a, h)
		}
	}
	if ok < 150 || ok > 1450 {
		t.Errorf("%d of 1500 were differences", ok)
	}
}

// P22.3: a terminal of a common size, whose states are told one behind the other, some of them not at all.
func TestCommon(t *testing.T) {
	t.Parallel()
	app, _ := emulator.New(40, 12)
	n := noise(26)
	h := checkOf(t, app.Screen(), 0)
	for i := range 60 {
		if i%15 == 14 {
			app.Write(bytesOf("&[H&[2J"))
		}
		if i == 40 {
			app.Resize(60, 10)
		}
		for range n.below(8) {
			app.Write(bytesOf(pick(&n, []string{"word ", "$ ls -l", "\r\n", "\r\n", "&[1;34mdir&[m  ", "&[K", "\u4e2d\u6587", "a\u0301"})))
		}
		next := checkOf(t, app.Screen(), uint64(i))
		if i%3 == 0 {
			continue
		}
		if diff := checkDiff(t, h, next); len(diff) > 700 {
			t.Errorf("step %d takes %d bytes", i, len(diff))
		}
		h = next
	}
}
