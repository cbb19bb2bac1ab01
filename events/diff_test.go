package events

import (
	"slices"
	"strings"
	"testing"

	"wayfarer/api"
	"wayfarer/wire"
)

// checkDiff holds Diff to an answer, to the chapter's words, and to being applied.
func checkDiff(t *testing.T, a, b []api.Event, want string, e api.Errno) {
	t.Helper()
	got, err := Diff(a, b)
	if string(got) != want || err != e {
		t.Errorf("Diff(%d events, %d) = %x (%d bytes), %d, want %x (%d bytes), %d", len(a), len(b), short(string(got)), len(got), err, short(want), len(want), e)
	}
	if slow, slowE := slowDiff(a, b); slow != want || slowE != e {
		t.Errorf("the chapter's words make %x (%d bytes), %d of %d events and %d, want %x (%d bytes), %d", short(slow), len(slow), slowE, len(a), len(b), short(want), len(want), e)
	}
	if e == api.OK {
		checkApply(t, a, want, b, api.OK)
	}
}

// P21.1: the examples of the chapter, and answers by hand for each kind.
func TestDiff(t *testing.T) {
	up, down := arrow('A'), arrow('B')
	for _, c := range []struct {
		a, b []api.Event
		want string
	}{
		{listed(up), listed(up, down), "\x01\x04\x42"},
		{nil, nil, "\x00"}, {listed(), nil, "\x00"}, {listed(up, down), listed(up, down), "\x00"},
		{nil, listed(up), "\x01\x04A"}, {nil, listed(up, down), "\x02\x04A\x04B"},
		{listed(up), listed(up, typed("hé")), "\x01\x01\x03h\xc3\xa9"},
		{listed(up), listed(up, pasted("hi")), "\x01\x03\x02hi"},
		{listed(up), listed(up, pasted("")), "\x01\x03\x00"},
		{listed(up), listed(up, sized(80, 300)), "\x01\x02\x50\xac\x02"},
		{listed(typed("a")), listed(typed("a"), typed("b"), typed("c")), "\x02\x01\x01b\x01\x01c"},
	} {
		checkDiff(t, c.a, c.b, c.want, api.OK)
	}
	if _, e := Diff(listed(down), listed(up, down)); e != api.ErrOrder {
		t.Errorf("Diff of logs that do not go on is %d", e)
	}
}

// P21.1: equal logs, and each beginning of logs.
func TestDiffBeginnings(t *testing.T) {
	for _, l := range [][]api.Event{sound(), arrows(300), arrows(4096)} {
		for _, a := range []int{0, 1, 2, len(l) - 129, len(l) - 128, len(l) - 127, len(l) - 1, len(l)} {
			for _, b := range []int{a, a + 1, len(l) - 1, len(l)} {
				if b >= a && b <= len(l) {
					checkDiff(t, l[:a], apart(l[:b]), slowForm(l[a:b]), api.OK)
				}
			}
		}
	}
}

// P21.1: a log that may not be, the one or the other, or both, whether they go on or not.
func TestDiffBroken(t *testing.T) {
	good := listed(typed("a"), arrow('B'))
	for _, x := range broken() {
		for _, bad := range [][]api.Event{{x}, {x, typed("a")}, {typed("a"), x}, {typed("a"), x, arrow('B')}, {typed("a"), arrow('B'), x}} {
			for _, other := range [][]api.Event{nil, good, good[1:], bad, append(slices.Clone(bad), good...)} {
				checkDiff(t, bad, other, "", api.ErrArg)
				checkDiff(t, other, bad, "", api.ErrArg)
			}
		}
	}
	for _, other := range [][]api.Event{nil, good, arrows(1), arrows(4095), arrows(4096), arrows(4097)} {
		checkDiff(t, arrows(4097), other, "", api.ErrArg)
		checkDiff(t, other, arrows(4097), "", api.ErrArg)
	}
}

// P21.1: logs that do not go on: the second one is shorter, or parts from the first one.
func TestDiffOrder(t *testing.T) {
	l := listed(typed("abc"), sized(80, 24), arrow('B'), pasted("abc"), pasted(""), arrow('A'))
	for a := range len(l) + 1 {
		for b := range a {
			checkDiff(t, l[:a], l[:b], "", api.ErrOrder)
			checkDiff(t, l[:a], apart(l[:b]), "", api.ErrOrder)
		}
	}
	for at, x := range l {
		for _, y := range append(others(x), arrow('C'), typed("z")) {
			m := slices.Clone(l)
			m[at] = y
			e := api.ErrOrder
			if !slowMay(y) {
				e = api.ErrArg
			}
			checkDiff(t, l, m, "", e)
			checkDiff(t, m, l, "", e)
			checkDiff(t, m, append(slices.Clone(l), x, y), "", e)
			checkDiff(t, l[:at+1], m, "", e)
		}
	}
}

// filling is a log whose form has so many bytes: fifteen events of the most bytes, and one of what is left.
func filling(size int) []api.Event {
	l := slices.Repeat(listed(typed(strings.Repeat("a", 4096))), 15)
	left := size - len(slowForm(l))
	return append(l, pasted(strings.Repeat("b", left-3)))
}

// P21.1: forms of as many bytes as there may be, and of more; only what stands behind the first log counts.
func TestDiffLimit(t *testing.T) {
	for size, e := range map[int]api.Errno{65535: api.OK, 65536: api.OK, 65537: api.ErrLimit, 65538: api.ErrLimit} {
		l := filling(size)
		form := slowForm(l)
		if len(form) != size {
			t.Fatalf("the form has %d bytes, not %d", len(form), size)
		}
		for _, a := range [][]api.Event{nil, listed(arrow('A')), l, append(slices.Clone(l), l...)} {
			want := form
			if e != api.OK {
				want = ""
			}
			checkDiff(t, a, slices.Concat(a, l), want, e)
		}
		// What does not go on, or may not be, is told ahead of what is too long.
		checkDiff(t, listed(arrow('A')), l, "", api.ErrOrder)
		checkDiff(t, nil, append(slices.Clone(l), arrow('E')), "", api.ErrArg)
		checkDiff(t, listed(arrow('E')), append(listed(arrow('E')), l...), "", api.ErrArg)
	}
	full := slices.Repeat(listed(typed(strings.Repeat("a", 4096))), 4096)
	checkDiff(t, nil, full, "", api.ErrLimit)
	checkDiff(t, full[:4081], full, slowForm(full[4081:]), api.OK)
	checkDiff(t, full[:4080], full, "", api.ErrLimit)
	checkDiff(t, full, full, "\x00", api.OK)
}

// checkApply holds Apply to an answer.
func checkApply(t *testing.T, a []api.Event, diff string, want []api.Event, e api.Errno) {
	t.Helper()
	got, err := Apply(a, []byte(diff))
	if !sameLog(got, want) || err != e {
		t.Errorf("Apply(%d events, %x of %d bytes) = %d events, %d, want %d, %d", len(a), short(diff), len(diff), len(got), err, len(want), e)
	}
}

// P21.1: the example of the chapter, and answers by hand for each kind.
func TestApply(t *testing.T) {
	up, down := arrow('A'), arrow('B')
	for _, a := range [][]api.Event{nil, listed(), listed(up), listed(typed("x"), pasted("")), sound()} {
		for _, c := range []struct {
			diff string
			more []api.Event
		}{
			{"\x00", nil},
			{"\x01\x04\x42", listed(down)},
			{"\x02\x04A\x04B", listed(up, down)},
			{"\x01\x01\x03h\xc3\xa9", listed(typed("hé"))},
			{"\x01\x03\x02hi", listed(pasted("hi"))},
			{"\x01\x03\x00", listed(pasted(""))},
			{"\x01\x02\x50\xac\x02", listed(sized(80, 300))},
			{"\x03\x02\x80\x04\x01\x04D\x01\x01\x00", listed(sized(512, 1), arrow('D'), typed("\x00"))},
		} {
			checkApply(t, a, c.diff, slices.Concat(a, c.more), api.OK)
		}
	}
}

// unread is bytes that are the form of no events, and what reading them answers.
func unread() map[string]api.Errno {
	return map[string]api.Errno{
		"": api.ErrShort, "\x80": api.ErrShort, "\x01": api.ErrShort, "\x02\x04A": api.ErrShort, "\x01\x04": api.ErrShort,
		"\x01\x01": api.ErrShort, "\x01\x01\x02a": api.ErrShort, "\x01\x03\x01": api.ErrShort, "\x01\x02": api.ErrShort, "\x01\x02\x50": api.ErrShort, "\x01\x02\x50\x80": api.ErrShort,
		"\x80\x20": api.ErrShort, // 4096 events, of which there is none

		"\x80\x00": api.ErrForm, "\x81\x20": api.ErrForm, "\xff\xff\xff\xff\xff\xff\xff\xff\xff\x02": api.ErrForm,
		"\x00\x00": api.ErrForm, "\x01\x04A\x00": api.ErrForm, "\x01\x04A\x04B": api.ErrForm,
		"\x01\x00": api.ErrForm, "\x01\x05": api.ErrForm, "\x01\xff": api.ErrForm,
		"\x01\x04@": api.ErrForm, "\x01\x04E": api.ErrForm, "\x02\x04A\x04E": api.ErrForm,
		"\x01\x01\x00": api.ErrForm, "\x01\x01\x81\x20": api.ErrForm, "\x01\x03\x81\x20": api.ErrForm, "\x01\x01\x81\x00a": api.ErrForm,
		"\x01\x02\x00\x01": api.ErrForm, "\x01\x02\x01\x00": api.ErrForm, "\x01\x02\x81\x04\x01": api.ErrForm, "\x01\x02\x01\x81\x04": api.ErrForm,

		slowForm(filling(65537)):          api.ErrLimit,
		strings.Repeat("\x00", 65537):     api.ErrLimit,
		strings.Repeat("\x80", 1<<17):     api.ErrLimit,
		strings.Repeat("\x00", 65536):     api.ErrForm,
		slowForm(filling(65535)) + "\x00": api.ErrForm,
	}
}

// P21.1: what is not the form of events is refused as wire refuses it, behind whatever log; a log that may not be is told ahead of it.
func TestApplyUnread(t *testing.T) {
	bad := [][]api.Event{listed(api.Event{}), listed(arrow('A'), typed("")), arrows(4097)}
	for diff, e := range unread() {
		for _, a := range [][]api.Event{nil, listed(arrow('A')), sound(), arrows(4095), arrows(4096)} {
			checkApply(t, a, diff, nil, e)
		}
		for _, a := range bad {
			checkApply(t, a, diff, nil, api.ErrArg)
		}
		if _, read := wire.ReadEvents([]byte(diff)); read != e {
			t.Errorf("wire answers %d, not %d", read, e)
		}
	}
	// Room behind the end is no part of a difference.
	checkApply(t, nil, string(roomy([]byte("\x01\x04"), 'A')), nil, api.ErrShort)
}

// P21.1: logs that may not be, with differences that may be read.
func TestApplyBroken(t *testing.T) {
	for _, x := range broken() {
		for _, a := range [][]api.Event{{x}, {x, typed("a")}, {typed("a"), x}, {typed("a"), x, arrow('B')}} {
			checkApply(t, a, "\x00", nil, api.ErrArg)
			checkApply(t, a, "\x01\x04A", nil, api.ErrArg)
		}
	}
	checkApply(t, arrows(4097), "\x00", nil, api.ErrArg)
	checkApply(t, arrows(4097), slowForm(arrows(4096)), nil, api.ErrArg)
}

// P21.1: as many events together as there may be, and more.
func TestApplyLimit(t *testing.T) {
	for _, count := range []int{0, 1, 2, 127, 128, 2048, 4094, 4095, 4096} {
		a := arrows(count)
		for _, more := range []int{0, 1, 2, 127, 128, 2048, 4094, 4095, 4096} {
			diff := slowForm(arrows(more))
			if count+more <= 4096 {
				checkApply(t, a, diff, append(arrows(count), arrows(more)...), api.OK)
			} else {
				checkApply(t, a, diff, nil, api.ErrLimit)
			}
		}
		checkApply(t, a, slowForm(arrows(4096-count)), append(arrows(count), arrows(4096-count)...), api.OK)
		if count > 0 {
			checkApply(t, a, slowForm(arrows(4097-count)), nil, api.ErrLimit)
		}
	}
	// No bound is set to the bytes of a log.
	l := filling(65536)
	checkApply(t, slices.Concat(l, l, l), slowForm(l), slices.Concat(l, l, l, l), api.OK)
}

// P21.1: bytes that look like chance, few and many of them forms, are read as wire reads them.
func TestApplyChance(t *testing.T) {
	n := noise(2101)
	read := 0
	for range 20000 {
		a := someLog(&n, 5)
		diff := []byte(slowForm(someLog(&n, 4)))
		for range n.below(3) {
			diff[n.below(len(diff))] = pick(&n, []byte{0, 1, 2, 3, 4, 5, 'A', 'E', 127, 128, 255})
		}
		more, e := wire.ReadEvents(diff)
		want := more
		if e == api.OK {
			want = slices.Concat(a, more)
			read++
		}
		checkApply(t, a, string(diff), want, e)
	}
	if read < 5000 || read > 15000 {
		t.Errorf("%d of 20000 were read", read)
	}
}
