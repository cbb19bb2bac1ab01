package events

import (
	"math"
	"slices"
	"strings"
	"testing"

	"wayfarer/api"
)

// checkMay holds May to an answer and to the chapter's words.
func checkMay(t *testing.T, l []api.Event, want bool) {
	t.Helper()
	if got, slow := May(l), slowLog(l); got != want || slow != want {
		t.Errorf("May of %d events = %t (the chapter's words make %t), want %t", len(l), got, slow, want)
	}
}

// P21.1: no events, and one at each edge of its kind.
func TestMay(t *testing.T) {
	checkMay(t, nil, true)
	checkMay(t, listed(), true)
	for _, x := range sound() {
		checkMay(t, listed(x), true)
		checkMay(t, listed(x, x), true)
		checkMay(t, listed(arrow('A'), x, typed("a")), true)
	}
	checkMay(t, sound(), true)
}

// P21.1: as many events as there may be, and more, which may be more bytes than their form may have.
func TestMayMany(t *testing.T) {
	for _, x := range listed(arrow('A'), sized(3, 2), pasted(""), typed(strings.Repeat("a", 4096))) {
		for count, want := range map[int]bool{4095: true, 4096: true, 4097: false, 8192: false, 65536 + 7: false} {
			checkMay(t, slices.Repeat(listed(x), count), want)
		}
	}
}

// P21.1: an event that may not be, alone, first, last, in the middle.
func TestMayBroken(t *testing.T) {
	good := listed(typed("a"), pasted("b"), sized(80, 24), arrow('A'))
	for _, x := range broken() {
		checkMay(t, listed(x), false)
		checkMay(t, listed(x, x), false)
		for at := range len(good) + 1 {
			checkMay(t, slices.Insert(slices.Clone(good), at, x), false)
		}
	}
	for _, at := range []int{0, 1, 2048, 4094, 4095} {
		checkMay(t, slices.Insert(arrows(4095), at, arrow('E')), false)
		checkMay(t, slices.Insert(arrows(4095), at, arrow('D')), true)
		checkMay(t, slices.Insert(arrows(4096), at, arrow('E')), false)
	}
}

// checkBegins holds Begins to an answer and to the chapter's words.
func checkBegins(t *testing.T, a, b []api.Event, want bool) {
	t.Helper()
	if got, slow := Begins(a, b), slowBegins(a, b); got != want || slow != want {
		t.Errorf("Begins of %d events and %d = %t (the chapter's words make %t), want %t", len(a), len(b), got, slow, want)
	}
}

// P21.1: the example of the chapter, and answers by hand.
func TestBegins(t *testing.T) {
	up, down := arrow('A'), arrow('B')
	for _, c := range []struct {
		a, b []api.Event
		want bool
	}{
		{nil, listed(up), true},
		{nil, nil, true}, {nil, listed(), true}, {listed(), nil, true}, {listed(), listed(), true},
		{listed(up), nil, false}, {listed(up), listed(), false}, {listed(api.Event{}), nil, false},
		{listed(up), listed(up), true}, {listed(up), listed(down), false},
		{listed(up), listed(up, down), true}, {listed(down), listed(up, down), false},
		{listed(up, down), listed(up), false}, {listed(up, down), listed(down, up), false},
		{listed(up, down), listed(up, down, up), true}, {listed(up, up), listed(up, down, up), false},
		{listed(typed("ab")), listed(typed("a"), typed("b")), false}, {listed(typed("a"), typed("b")), listed(typed("ab")), false},
		{listed(typed("a")), listed(typed("ab")), false}, {listed(typed("a")), listed(pasted("a")), false},
		{listed(sized(1, 2)), listed(sized(2, 1)), false},
		{listed(pasted("")), listed(api.Event{Kind: api.EPaste}), true}, {listed(api.Event{Kind: api.EPaste}), listed(pasted("")), true},
	} {
		checkBegins(t, c.a, c.b, c.want)
	}
}

// P21.1: lists of any events and length, those that may not be too, that are equal, shorter and longer.
func TestBeginsLengths(t *testing.T) {
	for _, l := range [][]api.Event{sound(), broken(), arrows(4097), slices.Repeat(listed(api.Event{}), 9000)} {
		for _, a := range []int{0, 1, 2, len(l) / 2, len(l) - 1, len(l)} {
			for _, b := range []int{0, 1, 2, len(l) / 2, len(l) - 1, len(l)} {
				checkBegins(t, l[:a], apart(l[:b]), a <= b)
			}
		}
	}
}

// P21.1: lists that part at the first, the last, a middle event, or behind the shorter one, by one field alone.
func TestBeginsPart(t *testing.T) {
	l := listed(typed("abc"), sized(80, 24), arrow('B'), pasted("abc"), pasted(""), api.Event{}, api.Event{Kind: 9, Bytes: []byte("abc"), Cols: 4, Rows: 5, Arrow: 6}, typed(strings.Repeat("a", 5000)))
	for at, x := range l {
		for _, y := range others(x) {
			m := slices.Clone(l)
			m[at] = y
			for size := range len(l) + 1 {
				checkBegins(t, l[:size], m, size <= at)
				checkBegins(t, m[:size], l, size <= at)
			}
		}
	}
}

// P21.1: lists that look like chance.
func TestBeginsChance(t *testing.T) {
	n := noise(21)
	found := 0
	few := listed(typed("a"), pasted("a"), api.Event{})
	for range 5000 {
		var a, b []api.Event
		for range n.below(4) {
			a = append(a, pick(&n, few))
		}
		for range n.below(5) {
			b = append(b, pick(&n, few))
		}
		want := slowBegins(a, b)
		checkBegins(t, a, b, want)
		if want && len(a) > 0 {
			found++
		}
	}
	if found < 100 {
		t.Errorf("just %d lists went on", found)
	}
}

// checkSince holds Since to an answer.
func checkSince(t *testing.T, l []api.Event, at int, want []api.Event, e api.Errno) {
	t.Helper()
	if got, err := Since(l, at); !sameLog(got, want) || err != e {
		t.Errorf("Since(%d events, %d) = %d events, %d, want %d, %d", len(l), at, len(got), err, len(want), e)
	}
}

// P21.1: the examples of the chapter, and each number that there is.
func TestSince(t *testing.T) {
	checkSince(t, listed(arrow('A'), arrow('B')), 1, listed(arrow('B')), api.OK)
	checkSince(t, listed(arrow('A'), arrow('B')), 3, nil, api.ErrArg)
	for _, l := range [][]api.Event{nil, listed(), listed(pasted("")), listed(typed("a"), sized(80, 24), arrow('B'), pasted("abc")), sound(), arrows(4096)} {
		for at := range len(l) + 1 {
			if at < 100 || at > len(l)-5 {
				checkSince(t, l, at, l[at:], api.OK)
			}
		}
		for _, at := range []int{math.MinInt, math.MinInt + 1, -4096, -2, -1, len(l) + 1, len(l) + 2, 1 << 32, math.MaxInt - 1, math.MaxInt} {
			checkSince(t, l, at, nil, api.ErrArg)
		}
		// Room behind the end is no part of a list.
		checkSince(t, apart(l), len(l)+1, nil, api.ErrArg)
		checkSince(t, apart(l), len(l), nil, api.OK)
	}
	// No bound is set to the bytes of a log.
	long := slices.Repeat(listed(typed(strings.Repeat("a", 4096))), 40)
	checkSince(t, long, 1, long[1:], api.OK)
}

// P21.1: a log that may not be, wherever its event that may not be stands.
func TestSinceBroken(t *testing.T) {
	for _, x := range broken() {
		for _, l := range [][]api.Event{{x}, {x, arrow('A'), arrow('B')}, {arrow('A'), x, arrow('B')}, {arrow('A'), arrow('B'), x}} {
			for _, at := range []int{-1, 0, 1, len(l), len(l) + 1} {
				checkSince(t, l, at, nil, api.ErrArg)
			}
		}
	}
	for _, at := range []int{-1, 0, 1, 4096, 4097, 4098} {
		checkSince(t, arrows(4097), at, nil, api.ErrArg)
	}
}
