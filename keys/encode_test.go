package keys

import (
	"math"
	"strings"
	"testing"

	"wayfarer/api"
)

// checkEncode holds Encode to an answer and to the chapter's words.
func checkEncode(t *testing.T, x api.Event, mode [2]bool, want string, e api.Errno) {
	t.Helper()
	got, err := Encode(x, mode[0], mode[1])
	if string(got) != want || err != e {
		t.Errorf("Encode(Kind %d of %d bytes, %v) = %q, %d, want %q, %d", x.Kind, len(x.Bytes), mode, short(string(got)), err, short(want), e)
	}
	if slow, slowE := slowEncode(x, mode[0], mode[1]); slow != want || slowE != e {
		t.Errorf("the chapter's words make %q, %d of Kind %d, %v, want %q, %d", short(slow), slowE, x.Kind, mode, short(want), e)
	}
}

// P20.1: the examples of the chapter.
func TestEncodeExamples(t *testing.T) {
	for _, c := range []struct {
		x             api.Event
		arrows, paste bool
		want          string
	}{
		{arrow('A'), false, false, "\x1b[A"},
		{arrow('A'), true, false, "\x1bOA"},
		{sized(80, 24), false, false, ""},
		{pasted("a\x1bb\n"), false, false, "ab\r"},
		{pasted("a"), false, true, "\x1b[200~a\x1b[201~"},
	} {
		checkEncode(t, c.x, [2]bool{c.arrows, c.paste}, c.want, api.OK)
	}
}

// P20.1: each kind of event in each pair of modes: not one of them hangs on the mode of another one.
func TestEncodeModes(t *testing.T) {
	for _, c := range []struct {
		x    api.Event
		want [4]string // without either, with arrows, with paste, with both
	}{
		{typed("a\n\x1b\x9b"), [4]string{"a\n\x1b\x9b", "a\n\x1b\x9b", "a\n\x1b\x9b", "a\n\x1b\x9b"}},
		{sized(1, 512), [4]string{}},
		{sized(512, 1), [4]string{}},
		{pasted("a\n\x1b\x9b"), [4]string{"a\r", "a\r", ahead + "a\r" + behind, ahead + "a\r" + behind}},
		{pasted(""), [4]string{"", "", ahead + behind, ahead + behind}},
		{pasted("\x1b\x9b\x1b"), [4]string{"", "", ahead + behind, ahead + behind}},
		{pasted(ahead + "x" + behind), [4]string{"[200~x[201~", "[200~x[201~", ahead + "[200~x[201~" + behind, ahead + "[200~x[201~" + behind}},
		{pasted("\x9b201~\x9b200~"), [4]string{"201~200~", "201~200~", ahead + "201~200~" + behind, ahead + "201~200~" + behind}},
		{arrow('A'), [4]string{"\x1b[A", "\x1bOA", "\x1b[A", "\x1bOA"}},
		{arrow('B'), [4]string{"\x1b[B", "\x1bOB", "\x1b[B", "\x1bOB"}},
		{arrow('C'), [4]string{"\x1b[C", "\x1bOC", "\x1b[C", "\x1bOC"}},
		{arrow('D'), [4]string{"\x1b[D", "\x1bOD", "\x1b[D", "\x1bOD"}},
	} {
		for i, mode := range modes() {
			checkEncode(t, c.x, mode, c.want[i], api.OK)
		}
	}
}

// P20.1: bytes that are no paste are told as they are, whatever they are; a paste of the same ones is clean.
func TestEncodeTough(t *testing.T) {
	for _, text := range tough() {
		for _, mode := range modes() {
			checkEncode(t, typed(text), mode, text, api.OK)
			want := slowClean(text)
			if mode[1] {
				want = ahead + want + behind
			}
			checkEncode(t, pasted(text), mode, want, api.OK)
		}
	}
	for c := range 256 {
		text := string([]byte{byte(c)})
		for _, mode := range modes() {
			checkEncode(t, typed(text), mode, text, api.OK)
		}
	}
}

// P20.1: lists that are nil and lists without elements are the same.
func TestEncodeNil(t *testing.T) {
	for _, mode := range modes() {
		for _, none := range [][]byte{nil, {}, []byte("a")[:0]} {
			want := ""
			if mode[1] {
				want = ahead + behind
			}
			checkEncode(t, api.Event{Kind: api.EPaste, Bytes: none}, mode, want, api.OK)
			checkEncode(t, api.Event{Kind: api.EResize, Bytes: none, Cols: 1, Rows: 1}, mode, "", api.OK)
			checkEncode(t, api.Event{Kind: api.EBytes, Bytes: none}, mode, "", api.ErrArg)
			arrowed := arrow('B')
			arrowed.Bytes = none
			checkEncode(t, arrowed, mode, map[bool]string{false: "\x1b[B", true: "\x1bOB"}[mode[0]], api.OK)
		}
	}
}

// broken is events that may not be, one for each way that layer 7 tells.
func broken() []api.Event {
	l := listed(
		api.Event{}, api.Event{Bytes: []byte("a")}, api.Event{Arrow: 'A'}, api.Event{Cols: 1, Rows: 1},
		typed(""), typed(strings.Repeat("a", 4097)), typed(strings.Repeat("\x1b", 1<<17)),
		pasted(strings.Repeat("a", 4097)), pasted(strings.Repeat("\x1b", 4097)),
	)
	for kind := 5; kind < 256; kind++ {
		l = append(l, api.Event{Kind: api.EventKind(kind)}, api.Event{Kind: api.EventKind(kind), Bytes: []byte("a")})
	}
	for _, n := range []int{math.MinInt, -1, 0, 513, 1<<16 + 1, 1<<32 + 1, math.MaxInt} {
		l = append(l, sized(n, 1), sized(1, n), sized(n, n))
	}
	for c := range 256 {
		if c < 'A' || c > 'D' {
			l = append(l, arrow(byte(c)))
		}
	}
	for _, whole := range listed(typed("a"), pasted(""), pasted("a"), sized(80, 24), arrow('A')) {
		for _, spoilt := range []func(x *api.Event){
			func(x *api.Event) { x.Bytes = []byte("a") },
			func(x *api.Event) { x.Cols = 1 },
			func(x *api.Event) { x.Cols = -1 },
			func(x *api.Event) { x.Rows = 1 },
			func(x *api.Event) { x.Rows = math.MinInt },
			func(x *api.Event) { x.Arrow = 'A' },
			func(x *api.Event) { x.Arrow = 255 },
		} {
			x := whole
			spoilt(&x)
			if !slowMay(x) {
				l = append(l, x)
			}
		}
	}
	return l
}

// P20.1: events that may not be.
func TestEncodeBroken(t *testing.T) {
	l := broken()
	if len(l) < 800 {
		t.Fatalf("%d events", len(l))
	}
	for _, x := range l {
		for _, mode := range modes() {
			checkEncode(t, x, mode, "", api.ErrArg)
		}
	}
}

// P20.1: at the bounds of layer 7 and past them.
func TestEncodeBounds(t *testing.T) {
	for _, c := range []string{"a", "\n", "\x1b", "\x9b", "\xff"} {
		for _, mode := range modes() {
			for _, size := range []int{1, 2, 4095, 4096} {
				text := strings.Repeat(c, size)
				checkEncode(t, typed(text), mode, text, api.OK)
				want := slowClean(text)
				if mode[1] {
					want = ahead + want + behind
				}
				checkEncode(t, pasted(text), mode, want, api.OK)
			}
			for _, size := range []int{4097, 4098, 65536, 65537} {
				text := strings.Repeat(c, size)
				checkEncode(t, typed(text), mode, "", api.ErrArg)
				checkEncode(t, pasted(text), mode, "", api.ErrArg)
			}
		}
	}
	for _, mode := range modes() {
		for _, n := range []int{1, 2, 511, 512} {
			checkEncode(t, sized(n, 1), mode, "", api.OK)
			checkEncode(t, sized(1, n), mode, "", api.OK)
			checkEncode(t, sized(n, n), mode, "", api.OK)
		}
	}
}

// someEvent is an event that looks like chance, most of them such as may be.
func someEvent(n *noise) api.Event {
	text := ""
	for range n.below(4) {
		text += pick(n, tough())
	}
	x := pick(n, listed(typed(text), typed("a"+text), pasted(text), sized(1+n.below(512), 1+n.below(512)), arrow(byte('A'+n.below(4)))))
	if n.below(40) == 0 {
		x = pick(n, listed(api.Event{Kind: api.EventKind(n.below(7)), Bytes: []byte(text), Arrow: byte(n.below(70))}, sized(n.below(520), n.below(520)), arrow(byte(n.below(256)))))
	}
	return x
}

// P20.1: events that look like chance.
func TestEncodeChance(t *testing.T) {
	n := noise(20)
	for range 20000 {
		x, mode := someEvent(&n), pick(&n, modes())
		want, e := slowEncode(x, mode[0], mode[1])
		checkEncode(t, x, mode, want, e)
	}
}

// P20.2: between the two marks of a paste no 27 stands, and no other end of it.
func TestPasteEnds(t *testing.T) {
	check := func(text string) {
		t.Helper()
		for _, arrows := range []bool{false, true} {
			b, e := Encode(pasted(text), arrows, true)
			inner, begun := strings.CutPrefix(string(b), "\x1b[200~")
			inner, ended := strings.CutSuffix(inner, "\x1b[201~")
			if e != api.OK || !begun || !ended || strings.ContainsAny(inner, "\x1b\n") || strings.IndexByte(inner, 155) >= 0 {
				t.Errorf("%q is pasted as %q, %d", short(text), short(string(b)), e)
			}
			if strings.Count(string(b), "\x1b[201~") != 1 || strings.Count(string(b), "\x1b") != 2 {
				t.Errorf("%q, pasted, ends in more than one place: %q", short(text), short(string(b)))
			}
		}
	}
	for _, text := range tough() {
		check(text)
		for _, other := range tough() {
			check(text + other)
		}
	}
	check(strings.Repeat("\x1b", 4096))
	check(strings.Repeat(behind, 682))
	end := "\x1b[201~"
	for at := range len(end) + 1 {
		for _, c := range []string{"\x1b", "\x9b", "\x1b\x1b", "\x1b[", end, ahead} {
			check(end[:at] + c + end[at:])
		}
	}
}
