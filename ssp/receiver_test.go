package ssp

import (
	"math"
	"slices"
	"testing"

	"wayfarer/api"
)

// P23.4: the numbers of the examples, and of a row of instructions that a sender told.
func TestTakeByHand(t *testing.T) {
	r := NewReceiver(text("a"))
	checkTake(t, r, instruction(0, 1, "b"), true, api.OK, "ab", 0, 1)
	checkTake(t, r, instruction(0, 1, "b"), false, api.OK, "ab", 0, 1)
	checkTake(t, r, instruction(0, 3, "bcd"), true, api.OK, "abcd", 0, 1, 3)
	checkTake(t, r, instruction(0, 2, "bc"), false, api.OK, "abcd", 0, 1, 2, 3)
	checkTake(t, r, instruction(1, 4, "cde"), true, api.OK, "abcde", 1, 2, 3, 4)
	checkTake(t, r, instruction(0, 5, "bcdef"), false, api.ErrFar, "abcde", 1, 2, 3, 4)
	checkTake(t, r, instruction(4, 4, ""), false, api.OK, "abcde", 4)
}

// P23.1: a new receiver has the first state, that of the number 0.
func TestNewReceiver(t *testing.T) {
	for _, x := range []text{"", "a", "a longer one"} {
		checkHolds(t, NewReceiver(x), x, 0)
	}
}

// P23.4: each call on a receiver that is not there, and on one that no call made.
func TestReceiverNotThere(t *testing.T) {
	for _, r := range []*Receiver[text]{nil, {}, new(Receiver[text])} {
		for _, x := range []api.Instruction{{}, instruction(0, 1, "b"), instruction(3, 2, "bad"), thrown(0, 1, 9, "b")} {
			if news, e := r.Take(x); news || e != api.ErrNil {
				t.Errorf("Take = %t, %d", news, e)
			}
		}
		if n, x := r.Latest(); n != 0 || x != "" {
			t.Errorf("Latest = %d, %q", n, x)
		}
		if held := r.Holds(); len(held) != 0 {
			t.Errorf("Holds = %d", held)
		}
	}
	var p *Receiver[*page]
	if n, x := p.Latest(); n != 0 || x != nil {
		t.Errorf("Latest = %d, %v", n, x)
	}
}

// of is a receiver of the first state "", and of the state of each of these numbers, which is that number of letters; the numbers are ahead of 1000.
func of(t *testing.T, numbers ...uint64) *Receiver[text] {
	t.Helper()
	r := NewReceiver(text(""))
	for _, n := range numbers {
		if _, e := r.Take(instruction(0, n, letters(n))); e != api.OK {
			t.Fatalf("Take of the state %d = %d", n, e)
		}
	}
	return r
}

// letters is so many letters.
func letters(n uint64) string {
	return string(slices.Repeat([]byte("x"), int(n)))
}

// P23.4: a state that it has not is not made of one that it has not; nor of one ahead of it.
func TestTakeFar(t *testing.T) {
	numbers := []uint64{0, 2, 3, 6}
	for old := range uint64(9) {
		for new := range uint64(9) {
			if slices.Contains(numbers, new) {
				continue
			}
			r := of(t, 3, 2, 6)
			if !slices.Contains(numbers, old) || new < old {
				checkTake(t, r, thrown(old, new, 0, "y"), false, api.ErrFar, text(letters(6)), 0, 2, 3, 6)
				checkTake(t, r, thrown(old, new, 3, "y"), false, api.ErrFar, text(letters(6)), 0, 2, 3, 6)
				checkTake(t, r, thrown(old, new, math.MaxUint64, "bad"), false, api.ErrFar, text(letters(6)), 0, 2, 3, 6)
				continue
			}
			latest, all := text(letters(6)), append([]uint64{new}, numbers...)
			if new > 6 {
				latest = text(letters(old) + "y")
			}
			slices.Sort(all)
			checkTake(t, r, thrown(old, new, 0, "y"), new > 6, api.OK, latest, all...)
		}
	}
}

// P23.4: a state is not made of itself: where it has it, there is nothing to be made.
func TestTakeNewAsOld(t *testing.T) {
	r := of(t, 2)
	checkTake(t, r, instruction(1, 1, "x"), false, api.ErrFar, "xx", 0, 2)
	checkTake(t, r, instruction(3, 3, ""), false, api.ErrFar, "xx", 0, 2)
	checkTake(t, r, thrown(2, 2, 0, "bad"), false, api.OK, "xx", 0, 2)
	checkTake(t, r, thrown(0, 0, 0, "bad"), false, api.OK, "xx", 0, 2)
}

// P23.4: what it has is not made again, whatever the instruction tells of it; those below Throw go.
func TestTakeAgain(t *testing.T) {
	for _, old := range []uint64{0, 1, 2, 3, 4, 5, 6, 9, math.MaxUint64} {
		for _, n := range []uint64{0, 1, 3, 5} {
			for _, diff := range []string{"", "y", "bad"} {
				want := map[uint64][]uint64{0: {0, 1, 3, 5}, 1: {1, 3, 5}, 2: {3, 5}, 3: {3, 5}, 4: {5}, 5: {5}, 6: {5}, math.MaxUint64: {5}}
				for throw, holds := range want {
					r := of(t, 1, 3, 5)
					checkTake(t, r, thrown(old, n, throw, diff), false, api.OK, text(letters(5)), holds...)
				}
			}
		}
	}
}

// P23.4: those below Throw go, also the one that the new state was made of, and the new one, but never the greatest.
func TestTakeThrow(t *testing.T) {
	latest := text(letters(5))
	for _, c := range []struct {
		x      api.Instruction
		news   bool
		latest text
		holds  []uint64
	}{
		{thrown(3, 7, 0, "y"), true, "xxxy", []uint64{0, 1, 3, 5, 7}},
		{thrown(3, 7, 1, "y"), true, "xxxy", []uint64{1, 3, 5, 7}},
		{thrown(3, 7, 2, "y"), true, "xxxy", []uint64{3, 5, 7}},
		{thrown(3, 7, 3, "y"), true, "xxxy", []uint64{3, 5, 7}},
		{thrown(3, 7, 4, "y"), true, "xxxy", []uint64{5, 7}},
		{thrown(3, 7, 6, "y"), true, "xxxy", []uint64{7}},
		{thrown(3, 7, 7, "y"), true, "xxxy", []uint64{7}},
		{thrown(3, 7, 8, "y"), true, "xxxy", []uint64{7}},
		{thrown(3, 7, math.MaxUint64, "y"), true, "xxxy", []uint64{7}},
		{thrown(1, 4, 1, "y"), false, latest, []uint64{1, 3, 4, 5}},
		{thrown(1, 4, 2, "y"), false, latest, []uint64{3, 4, 5}},
		{thrown(1, 4, 4, "y"), false, latest, []uint64{4, 5}},
		{thrown(1, 4, 5, "y"), false, latest, []uint64{5}}, // it goes at once
		{thrown(1, 4, 6, "y"), false, latest, []uint64{5}},
		{thrown(0, 2, 3, "y"), false, latest, []uint64{3, 5}},
		{thrown(0, 2, math.MaxUint64, "y"), false, latest, []uint64{5}},
	} {
		checkTake(t, of(t, 1, 3, 5), c.x, c.news, api.OK, c.latest, c.holds...)
	}
}

// P23.4: what went is far from then on, and may come again where it can be made.
func TestTakeGone(t *testing.T) {
	r := of(t, 1, 3, 5)
	checkTake(t, r, thrown(1, 3, 3, ""), false, api.OK, text(letters(5)), 3, 5)
	checkTake(t, r, thrown(1, 6, 0, "y"), false, api.ErrFar, text(letters(5)), 3, 5)
	checkTake(t, r, thrown(0, 1, 0, "y"), false, api.ErrFar, text(letters(5)), 3, 5)
	checkTake(t, r, thrown(3, 4, 0, "y"), false, api.OK, text(letters(5)), 3, 4, 5)
	checkTake(t, r, thrown(4, 4, 5, ""), false, api.OK, text(letters(5)), 5)
	checkTake(t, r, thrown(4, 6, 0, "y"), false, api.ErrFar, text(letters(5)), 5)
	checkTake(t, r, thrown(5, 4, 0, "y"), false, api.ErrFar, text(letters(5)), 5)
}

// P23.4: a state between those that it has is made as any other, and others of it.
func TestTakeBetween(t *testing.T) {
	r := of(t, 9)
	checkTake(t, r, instruction(0, 4, "b"), false, api.OK, text(letters(9)), 0, 4, 9)
	checkTake(t, r, instruction(0, 2, "a"), false, api.OK, text(letters(9)), 0, 2, 4, 9)
	checkTake(t, r, thrown(2, 6, 0, "c"), false, api.OK, text(letters(9)), 0, 2, 4, 6, 9)
	checkTake(t, r, thrown(6, 11, 0, "d"), true, api.OK, "acd", 0, 2, 4, 6, 9, 11)
	checkTake(t, r, thrown(4, 10, 0, "e"), false, api.OK, "acd", 0, 2, 4, 6, 9, 10, 11)
	checkTake(t, r, thrown(10, 12, 10, "f"), true, api.OK, "bef", 10, 11, 12)
}

// P23.4: the numbers at both ends.
func TestTakeEnds(t *testing.T) {
	const end = math.MaxUint64
	r := NewReceiver(text(""))
	checkTake(t, r, instruction(0, 0, "x"), false, api.OK, "", 0)
	checkTake(t, r, thrown(0, 0, end, "x"), false, api.OK, "", 0)
	checkTake(t, r, thrown(end, 0, end, "x"), false, api.OK, "", 0)
	checkTake(t, r, instruction(end, end, "x"), false, api.ErrFar, "", 0)
	checkTake(t, r, instruction(0, end, "x"), true, api.OK, "x", 0, end)
	checkTake(t, r, instruction(0, end-1, "y"), false, api.OK, "x", 0, end-1, end)
	checkTake(t, r, instruction(0, 1<<63, "z"), false, api.OK, "x", 0, 1<<63, end-1, end)
	checkTake(t, r, instruction(0, 1<<63-1, "z"), false, api.OK, "x", 0, 1<<63-1, 1<<63, end-1, end)
	checkTake(t, r, instruction(end, 3, "z"), false, api.ErrFar, "x", 0, 1<<63-1, 1<<63, end-1, end)
	checkTake(t, r, thrown(end-1, end, 1<<63, "z"), false, api.OK, "x", 1<<63, end-1, end)
	checkTake(t, r, thrown(end, end, end, "z"), false, api.OK, "x", end)
	checkTake(t, r, thrown(end, 0, end, "z"), false, api.ErrFar, "x", end)
}

// full is a receiver of MaxStates states, the numbers 0, 2, 4 ..
func full(t *testing.T) (*Receiver[text], []uint64) {
	t.Helper()
	var numbers []uint64
	for n := range uint64(api.MaxStates) {
		numbers = append(numbers, 2*n)
	}
	r := of(t, numbers...)
	checkHolds(t, r, text(letters(2*api.MaxStates-2)), numbers...)
	return r, numbers
}

// P23.4: MaxStates states, and Throw so that none goes, one goes, all go.
func TestTakeFull(t *testing.T) {
	last := uint64(2*api.MaxStates - 2)
	for _, n := range []uint64{1, 31, last - 1, last + 1, 999, math.MaxUint64} {
		r, numbers := full(t)
		checkTake(t, r, thrown(0, n, 0, "y"), false, api.ErrFull, text(letters(last)), numbers...)
		checkTake(t, r, thrown(0, n, 0, "bad"), false, api.ErrFull, text(letters(last)), numbers...)
		checkTake(t, r, thrown(1, n, 0, "y"), false, api.ErrFar, text(letters(last)), numbers...)
		if n < last {
			checkTake(t, r, thrown(last, n, 0, "y"), false, api.ErrFar, text(letters(last)), numbers...)
		}
		checkTake(t, r, thrown(0, n, 1, "bad"), false, errApply, text(letters(last)), numbers...)
		checkTake(t, r, thrown(0, last, 0, "bad"), false, api.OK, text(letters(last)), numbers...)
	}
	for _, throw := range []uint64{1, 2, 3, 10, last, last + 1, last + 2, math.MaxUint64} {
		r, numbers := full(t)
		want := slices.DeleteFunc(append(slices.Clone(numbers), last+1), func(n uint64) bool { return n < throw && n <= last })
		checkTake(t, r, thrown(0, last+1, throw, "y"), true, api.OK, "y", want...)
		r, numbers = full(t)
		want = slices.DeleteFunc(append(slices.Clone(numbers), 9), func(n uint64) bool { return n < throw && n < last })
		slices.Sort(want)
		checkTake(t, r, thrown(8, 9, throw, "y"), false, api.OK, text(letters(last)), want...)
	}
}

// P23.4: one state fewer than MaxStates leaves room for one.
func TestTakeAlmostFull(t *testing.T) {
	r, numbers := full(t)
	last := text(letters(2*api.MaxStates - 2))
	checkTake(t, r, thrown(0, 0, 1, ""), false, api.OK, last, numbers[1:]...)
	want := append([]uint64{2, 3}, numbers[2:]...)
	checkTake(t, r, thrown(2, 3, 0, "y"), false, api.OK, last, want...)
	checkTake(t, r, thrown(2, 5, 0, "y"), false, api.ErrFull, last, want...)
	checkTake(t, r, thrown(2, 5, 2, "y"), false, api.ErrFull, last, want...)
	checkTake(t, r, thrown(2, 99, 3, "y"), true, api.OK, "xxy", append(want[1:], 99)...)
}

// P23.4: behind an error of Apply nothing is changed, whatever else the instruction tells.
func TestTakeRefused(t *testing.T) {
	r := of(t, 2, 5)
	for _, throw := range []uint64{0, 2, 5, 9} {
		for _, n := range []uint64{3, 7, math.MaxUint64} {
			checkTake(t, r, thrown(2, n, throw, "bad"), false, errApply, text(letters(5)), 0, 2, 5)
		}
	}
	checkTake(t, r, thrown(2, 7, 2, "y"), true, api.OK, "xxy", 2, 5, 7)
	w := NewReceiver(word("a"))
	checkTake(t, w, instruction(0, 2, "a>b"), true, api.OK, "b", 0, 2)
	checkTake(t, w, instruction(2, 3, "a>c"), false, errApply, "b", 0, 2)
	checkTake(t, w, instruction(0, 3, "b>c"), false, errApply, "b", 0, 2)
	checkTake(t, w, instruction(0, 3, "a>c"), true, api.OK, "c", 0, 2, 3)
}

// P23.4: whatever number an error of Apply has, it is the answer.
func TestTakeErrnos(t *testing.T) {
	f := &faults{}
	r := NewReceiver(faulty{"a", f})
	for _, e := range []api.Errno{api.ErrNil, api.ErrFar, api.ErrLimit, 999, -1} {
		f.apply = e
		checkTake(t, r, thrown(0, 1, 1, "b"), false, e, faulty{"a", f}, 0)
	}
	f.apply = api.OK
	checkTake(t, r, thrown(0, 1, 1, "b"), true, api.OK, faulty{"ab", f}, 1)
}

// P23.4: an Apply that changes the state itself changes none that the receiver has, also where it has an error.
func TestTakeChanging(t *testing.T) {
	r := NewReceiver(&page{"a"})
	check := func(x api.Instruction, news bool, want api.Errno, latest string) {
		t.Helper()
		if got, e := r.Take(x); got != news || e != want {
			t.Errorf("Take(%v) = %t, %d, want %t, %d", x, got, e, news, want)
		}
		if _, p := r.Latest(); p.text != latest {
			t.Errorf("Latest = %q, want %q", p.text, latest)
		}
	}
	check(instruction(0, 1, "b"), true, api.OK, "ab")
	check(instruction(0, 2, "c"), true, api.OK, "ac")
	check(instruction(2, 3, "bad"), false, errApply, "ac")
	check(instruction(0, 3, "bad"), false, errApply, "ac")
	check(instruction(0, 3, "d"), true, api.OK, "ad")
	check(thrown(1, 4, 0, "e"), true, api.OK, "abe")
	check(thrown(2, 5, 0, "f"), true, api.OK, "acf")
}

// P23.4: a state that panics ends no call so, and nothing is changed by it.
func TestReceiverPanics(t *testing.T) {
	f := &faults{panics: "Copy"}
	if r := NewReceiver(faulty{"a", f}); r != nil {
		t.Error("there is a receiver of a state that has no copy")
	}
	f.panics = ""
	r := NewReceiver(faulty{"a", f})
	for _, method := range []string{"Apply", "Copy"} {
		f.panics = method
		if news, e := r.Take(thrown(0, 1, 1, "b")); news || e != api.ErrNil {
			t.Errorf("Take = %t, %d", news, e)
		}
	}
	if n, x := r.Latest(); n != 0 || x != (faulty{}) {
		t.Errorf("Latest = %d, %v", n, x)
	}
	f.panics = ""
	checkHolds(t, r, faulty{"a", f}, 0)
	checkTake(t, r, thrown(0, 1, 1, "b"), true, api.OK, faulty{"ab", f}, 1)
	f.panics = "Copy"
	if n, x := r.Latest(); n != 0 || x != (faulty{}) {
		t.Errorf("Latest = %d, %v", n, x)
	}
}

// P23.1: states of which there may be none, and pointers to nothing.
func TestReceiverOfNone(t *testing.T) {
	if r := NewReceiver[open](nil); r != nil {
		t.Error("there is a receiver of a state that is not there")
	}
	if r := NewReceiver[*page](nil); r != nil {
		t.Error("there is a receiver of a page that is not there")
	}
	r := NewReceiver[open](shut{})
	checkTake(t, r, instruction(0, 1, "d"), true, api.OK, open(shut{}), 0, 1)
}
