package events

import (
	"slices"
	"testing"

	"wayfarer/api"
)

// checkBoth holds Apply of a difference to the second log, and that to going on from the first one.
func checkBoth(t *testing.T, a, b []api.Event) []api.Event {
	t.Helper()
	diff, e := Diff(a, b)
	if e != api.OK {
		t.Fatalf("Diff(%d events, %d) answers %d", len(a), len(b), e)
	}
	c, e := Apply(a, diff)
	if e != api.OK || !sameLog(c, b) {
		t.Fatalf("Apply of what Diff tells = %d events, %d, want %d", len(c), e, len(b))
	}
	if !May(c) || !Begins(a, c) || !Begins(c, b) {
		t.Fatalf("what was applied does not go on from what was ahead")
	}
	rest, e := Since(c, len(a))
	if e != api.OK || !sameLog(rest, b[len(a):]) {
		t.Fatalf("Since what was ahead = %d events, %d, want %d", len(rest), e, len(b)-len(a))
	}
	return c
}

// P21.2: Apply(a, Diff(a, b)) is b, for each cut of a log.
func TestBoth(t *testing.T) {
	l := listed(typed("abc"), sized(80, 24), arrow('B'), pasted("abc"), pasted(""), typed("\x00\xff"), arrow('A'), sized(512, 1))
	for b := range len(l) + 1 {
		for a := range b + 1 {
			checkBoth(t, l[:a], l[:b])
		}
	}
	for _, at := range []int{0, 1, 2048, 4095, 4096} {
		checkBoth(t, arrows(4096)[:at], arrows(4096))
	}
	for _, x := range sound() {
		checkBoth(t, nil, listed(x))
		checkBoth(t, listed(x), listed(x, x))
	}
}

// P21.2: differences that are put on one behind the other come to the last log, and each log on the way goes on from all ahead of it.
func TestBehindOneAnother(t *testing.T) {
	n := noise(2102)
	for range 500 {
		l := someLog(&n, 40)
		cuts := []int{0, len(l)}
		for range n.below(8) {
			cuts = append(cuts, n.below(len(l)+1))
		}
		slices.Sort(cuts)
		var diffs [][]byte
		for i, cut := range cuts[1:] {
			diff, e := Diff(l[:cuts[i]], l[:cut])
			if e != api.OK {
				t.Fatalf("Diff answers %d", e)
			}
			diffs = append(diffs, diff)
		}
		var logs [][]api.Event
		var log []api.Event
		for i, diff := range diffs {
			next, e := Apply(log, diff)
			if e != api.OK || !May(next) || !sameLog(next, l[:cuts[i+1]]) {
				t.Fatalf("Apply = %d events, %d, want %d", len(next), e, cuts[i+1])
			}
			logs = append(logs, next)
			for _, ahead := range logs {
				if !Begins(ahead, next) {
					t.Fatalf("a log of %d events does not go on from one of %d", len(next), len(ahead))
				}
			}
			log = next
		}
		if !sameLog(log, l) {
			t.Fatalf("the differences come to %d events, not %d", len(log), len(l))
		}
		checkBoth(t, nil, log)
	}
}

// P21.2: what was applied goes on from what was ahead, from whatever log the difference was made.
func TestElsewhere(t *testing.T) {
	n := noise(2103)
	for range 3000 {
		a, b := someLog(&n, 6), someLog(&n, 6)
		c := slices.Concat(b, someLog(&n, 6))
		diff, e := Diff(b, c)
		if e != api.OK {
			t.Fatalf("Diff answers %d", e)
		}
		d, e := Apply(a, diff)
		if e != api.OK || !Begins(a, d) || !sameLog(d, slices.Concat(a, c[len(b):])) {
			t.Fatalf("Apply = %d events, %d", len(d), e)
		}
		if again, e := Diff(a, d); e != api.OK || string(again) != string(diff) {
			t.Fatalf("the difference of what was applied is %x, %d, not %x", short(string(again)), e, short(string(diff)))
		}
	}
}

// P21.1, P21.2: pairs of logs that look like chance, such as may not be and such as do not go on among them.
func TestPairsChance(t *testing.T) {
	n := noise(2104)
	var met [300]int
	for range 20000 {
		var a []api.Event
		for range n.below(6) {
			a = append(a, someEvent(&n))
		}
		b := slices.Clone(a[:max(0, len(a)-n.below(5)/3)])
		for range n.below(6) {
			b = append(b, someEvent(&n))
		}
		want, e := slowDiff(a, b)
		checkDiff(t, a, b, want, e)
		checkMay(t, a, slowLog(a))
		checkBegins(t, a, b, slowBegins(a, b))
		met[e]++
	}
	if met[api.OK] < 1000 || met[api.ErrArg] < 1000 || met[api.ErrOrder] < 1000 {
		t.Errorf("%d pairs were told, %d may not be, %d do not go on", met[api.OK], met[api.ErrArg], met[api.ErrOrder])
	}
}

// P21.2: a whole log of as many events as may be, told bit by bit.
func TestGrowing(t *testing.T) {
	var whole, told []api.Event
	n := noise(2105)
	for len(whole) < 4096 {
		for range min(4096-len(whole), 1+n.below(400)) {
			whole = append(whole, pick(&n, listed(typed("a"), arrow('C'), pasted("some"), sized(80, 24))))
		}
		told = checkBoth(t, told, whole)
	}
	checkApply(t, told, "\x00", whole, api.OK)
	checkApply(t, told, "\x01\x04A", nil, api.ErrLimit)
}
