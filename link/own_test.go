package link

import (
	"bytes"
	"slices"
	"testing"

	"wayfarer/api"
)

// P24.1: what Send is handed stays as it is, the room behind its end too, and is not kept; what it answers is new memory.
func TestOwnSend(t *testing.T) {
	for _, count := range []int{0, 1, 500, 2500} {
		c, s := linksOf(t)
		other := linkOf(t, api.Client, 0)
		x := instruction(5, roomy(wildOf(count)))
		was := slices.Clone(x.Diff[:cap(x.Diff)])
		row := sent(t, c, x, 5)
		if !bytes.Equal(x.Diff[:cap(x.Diff)], was) {
			t.Error("what was handed in did not stay as it was")
		}
		want := instruction(5, slices.Clone(x.Diff))
		spoil(x.Diff)
		again := sent(t, other, want, 5)
		checkApart(t, row)
		for i, b := range again {
			if !bytes.Equal(b, row[i]) {
				t.Errorf("the datagram %d hangs on something else than what was handed in", i)
			}
			if i < len(again)-1 {
				checkNone(t, s, b, 9, api.OK)
			} else {
				checkTake(t, s, b, 9, want)
			}
		}
		for _, b := range row {
			spoil(b)
		}
		checkNext(t, c, other)
	}
}

// checkApart holds lists to sharing no memory, the room behind their ends too.
func checkApart(t *testing.T, row [][]byte) {
	t.Helper()
	for i, b := range row {
		b = b[:cap(b)]
		was := slices.Clone(row)
		for k := range was {
			was[k] = slices.Clone(row[k])
		}
		spoil(b)
		for k := range row {
			if k != i && !bytes.Equal(row[k], was[k]) {
				t.Errorf("the datagrams %d and %d share memory", i, k)
			}
		}
		spoil(b)
	}
}

// checkNext holds two links to sending the same next.
func checkNext(t *testing.T, a, b *Link) {
	t.Helper()
	x := instruction(8, wildOf(1200))
	if !slices.EqualFunc(sent(t, a, x, 10), sent(t, b, x, 10), bytes.Equal) {
		t.Error("what is done to an answer changes what is sent next")
	}
}

// P24.2: what Take is handed stays as it is, the room behind its end too, and is not kept.
func TestOwnTake(t *testing.T) {
	c, s := linksOf(t)
	x := instruction(5, wildOf(2500))
	row := sent(t, c, x, 5)
	for i, b := range row {
		b = roomy(b)
		was := slices.Clone(b[:cap(b)])
		got, done, e := s.Take(b, 9)
		if done != (i == len(row)-1) || e != api.OK || done && !same(got, x) {
			t.Errorf("Take = %v, %t, %d", got, done, e)
		}
		if !bytes.Equal(b[:cap(b)], was) {
			t.Error("what was handed in did not stay as it was")
		}
		spoil(b)
		if done && !same(got, x) {
			t.Error("what was answered shares memory with what was handed in")
		}
		for _, bad := range [][]byte{was[:len(was)-6], was[:20], was} {
			bad = roomy(bad)
			was := slices.Clone(bad[:cap(bad)])
			s.Take(bad, 9)
			if !bytes.Equal(bad[:cap(bad)], was) {
				t.Error("what was handed in and refused did not stay as it was")
			}
		}
	}
}

// P24.2: an instruction that was answered shares no memory with the link, nor with the next one.
func TestOwnTaken(t *testing.T) {
	c, s := linksOf(t)
	x := instruction(5, wildOf(900))
	first, _, _ := s.Take(one(t, c, x, 5), 9)
	second, _, _ := s.Take(one(t, c, x, 5), 9)
	spoil(first.Diff)
	if !same(second, x) {
		t.Error("two answers share memory")
	}
	checkTake(t, s, one(t, c, x, 5), 9, x)
}

// P24.1: links share nothing with each other.
func TestOwnTwo(t *testing.T) {
	a, b := linkOf(t, api.Server, 0), linkOf(t, api.Server, 0)
	c := linkOf(t, api.Client, 0)
	row := sent(t, c, ofStream(t, 1500), 5)
	checkNone(t, a, row[0], 9, api.OK)
	checkNone(t, b, row[1], 9, api.OK)
	checkCounts(t, a, 0, 1, 0, 0)
	checkCounts(t, b, 0, 1, 0, 0)
	one(t, a, api.Instruction{}, 9)
	checkCounts(t, b, 0, 1, 0, 0)
}

// longDiff is a long instruction of a kind that differences of screens are of.
func longDiff() api.Instruction {
	n := noise(2430)
	var diff []byte
	for len(diff) < 8000 {
		diff = append(diff, pick(&n, []string{"\x1b[1;31m", "wayfarer ", "datagram ", "\x1b[m", "\r\n", "0123", "of "})...)
	}
	return instruction(77, diff)
}

func BenchmarkSend(b *testing.B) {
	l := linkOf(b, api.Client, 0)
	x := longDiff()
	for b.Loop() {
		l.Send(x, 5)
	}
}

func BenchmarkTake(b *testing.B) {
	c, s := linksOf(b)
	x := longDiff()
	for b.Loop() {
		b.StopTimer()
		row := sent(b, c, x, 5)
		b.StartTimer()
		for _, d := range row {
			s.Take(d, 9)
		}
	}
}
