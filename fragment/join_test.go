package fragment

import (
	"bytes"
	"math"
	"slices"
	"testing"

	"wayfarer/api"
)

// pair is a joiner and the slow one beside it.
type pair struct {
	fast *Join
	slow *slowJoin
}

func newPair() pair {
	return pair{New(), &slowJoin{}}
}

// checkHolds holds Holds to three numbers and to the slow reading.
func (x pair) checkHolds(t *testing.T, id uint64, parts, size int) {
	t.Helper()
	a, b, c := x.fast.Holds()
	sa, sb, sc := x.slow.holds()
	if a != id || b != parts || c != size || sa != id || sb != parts || sc != size {
		t.Fatalf("Holds = %d, %d, %d, want %d, %d, %d (or %d, %d, %d)", a, b, c, id, parts, size, sa, sb, sc)
	}
}

// check holds Take to what is wanted and to the slow reading, both numbers and limits of Holds behind it, what it was handed to staying as it is, and what it answers and what it keeps to being its own.
func (x pair) check(t *testing.T, p api.Part, want string, done bool, e api.Errno) {
	t.Helper()
	slow, slowDone, slowE := x.slow.take(p)
	if string(slow) != want || slowDone != done || slowE != e {
		t.Fatalf("the slow Take(%d, %d, %v, %.40x) = %.40q, %v, %v, want %.40q, %v, %v", p.Id, p.N, p.Last, p.Bytes, slow, slowDone, slowE, want, done, e)
	}
	x.checkAsSlow(t, p, slow, done, e)
}

// checkAsSlow is check behind the slow one's answer.
func (x pair) checkAsSlow(t *testing.T, p api.Part, want []byte, done bool, e api.Errno) {
	t.Helper()
	handed := p
	handed.Bytes = roomy(p.Bytes)
	whole := bytes.Clone(handed.Bytes[:cap(handed.Bytes)])
	b, got, ge := x.fast.Take(handed)
	if !bytes.Equal(b, want) || got != done || ge != e {
		t.Fatalf("Take(%d, %d, %v, %.40x) = %.40q, %v, %v, want %.40q, %v, %v", p.Id, p.N, p.Last, p.Bytes, b, got, ge, want, done, e)
	}
	spoil(b)
	if !bytes.Equal(handed.Bytes[:cap(handed.Bytes)], whole) {
		t.Fatal("Take changed what it was handed, or answers it")
	}
	// What it keeps of the part is held against the slow one's bytes by a later answer.
	spoil(handed.Bytes)
	id, parts, size := x.slow.holds()
	x.checkHolds(t, id, parts, size)
	if parts > api.MaxParts || size > api.MaxParts*api.MaxPart {
		t.Fatalf("Holds = %d, %d, %d: more than the limits", id, parts, size)
	}
}

// P10.2: the examples of the chapter.
func TestJoinExamples(t *testing.T) {
	l, _ := Split(7, []byte{1, 2, 3}, 2)
	x := newPair()
	x.check(t, l[1], "", false, api.OK)
	x.check(t, l[0], "\x01\x02\x03", true, api.OK)
	x.check(t, l[0], "", false, api.OK)
}

// P10.2, P10.3: a joiner step by step: an Id below, the same and greater, the same N with other bytes, an end and what comes behind it.
func TestJoinSteps(t *testing.T) {
	x := newPair()
	x.checkHolds(t, 0, 0, 0)
	x.check(t, last(7, 2, 'd', 'e'), "", false, api.OK)
	x.checkHolds(t, 7, 1, 2)
	x.check(t, last(7, 2, 'D'), "", false, api.OK)
	x.check(t, part(7, 2, 'x', 'y', 'z'), "", false, api.OK)
	x.checkHolds(t, 7, 1, 2)
	x.check(t, last(6, 0, 'z'), "", false, api.OK)
	x.check(t, last(0, 0), "", false, api.OK)
	x.checkHolds(t, 7, 1, 2)
	x.check(t, part(7, 0, 'a'), "", false, api.OK)
	x.check(t, part(7, 0, 'A'), "", false, api.OK)
	x.checkHolds(t, 7, 2, 3)
	x.check(t, part(7, 1, 'b', 'c'), "abcde", true, api.OK)
	x.checkHolds(t, 7, 0, 0)
	for _, p := range []api.Part{part(7, 1, 'b', 'c'), last(7, 0, 'q'), last(7, 0), part(7, 9, 'n'), last(6, 0, 'z'), last(0, 0)} {
		x.check(t, p, "", false, api.OK)
		x.checkHolds(t, 7, 0, 0)
	}
	x.check(t, part(8, 1, '2'), "", false, api.OK)
	x.checkHolds(t, 8, 1, 1)
	x.check(t, part(9, 1, '3'), "", false, api.OK)
	x.checkHolds(t, 9, 1, 1)
	x.check(t, last(8, 0, '1'), "", false, api.OK)
	x.check(t, last(9, 0), "", true, api.OK)
	x.checkHolds(t, 9, 0, 0)
	x.check(t, last(math.MaxUint64, 1, 'b'), "", false, api.OK)
	x.check(t, last(math.MaxUint64-1, 0, 'n'), "", false, api.OK)
	x.check(t, part(math.MaxUint64, 0, 'a'), "ab", true, api.OK)
	x.check(t, part(0, 0, 'n'), "", false, api.OK)
	x.checkHolds(t, math.MaxUint64, 0, 0)
}

// P10.2, P10.3: what an Id left behind does not come to the bytes of another one, at an end or without one.
func TestJoinOtherId(t *testing.T) {
	x := newPair()
	x.check(t, part(1, 0, 'o', 'l', 'd'), "", false, api.OK)
	x.check(t, last(2, 1, 'b'), "", false, api.OK)
	x.checkHolds(t, 2, 1, 1)
	x.check(t, part(1, 0, 'o', 'l', 'd'), "", false, api.OK)
	x.check(t, last(3, 2, 'c'), "", false, api.OK)
	x.check(t, part(3, 0, 'a'), "", false, api.OK)
	x.checkHolds(t, 3, 2, 2)
	x.check(t, part(3, 1, 'b'), "abc", true, api.OK)
	x.check(t, part(4, 1, 'y'), "", false, api.OK)
	x.check(t, last(4, 3, '.'), "", false, api.OK)
	x.check(t, part(4, 0, 'x'), "", false, api.OK)
	x.checkHolds(t, 4, 3, 3)
	x.check(t, part(4, 2, 'z'), "xyz.", true, api.OK)
}

// P10.2, P10.3: the Id 0 is an Id as others are, though it is told of a joiner of nothing, too.
func TestJoinIdZero(t *testing.T) {
	x := newPair()
	x.check(t, last(0, 1, 'b'), "", false, api.OK)
	x.checkHolds(t, 0, 1, 1)
	x.check(t, part(0, 0, 'a'), "ab", true, api.OK)
	x.checkHolds(t, 0, 0, 0)
	x.check(t, last(0, 0, 'c'), "", false, api.OK)
	x.check(t, part(0, 3, 'c'), "", false, api.OK)
	x.checkHolds(t, 0, 0, 0)
	x.check(t, last(1, 0, 'c'), "c", true, api.OK)
	x.check(t, last(0, 0, 'c'), "", false, api.OK)
	x.checkHolds(t, 1, 0, 0)

	x = newPair()
	x.check(t, part(0, 0, 'a'), "", false, api.OK)
	x.check(t, last(1, 1, 'b'), "", false, api.OK)
	x.checkHolds(t, 1, 1, 1)
	x.check(t, part(0, 0, 'a'), "", false, api.OK)
	x.checkHolds(t, 1, 1, 1)

	x = newPair()
	x.check(t, last(0, 0), "", true, api.OK)
	x.check(t, last(0, 0), "", false, api.OK)
}

// P10.2: the least Last one ends it, those behind it count for nothing, and one that is no Last at its N keeps a later one from being it.
func TestJoinLasts(t *testing.T) {
	x := newPair()
	x.check(t, last(1, 4, 'e'), "", false, api.OK)
	x.check(t, part(1, 6, 'g'), "", false, api.OK)
	x.check(t, last(1, 2, 'c'), "", false, api.OK)
	x.check(t, part(1, 3, 'd'), "", false, api.OK)
	x.check(t, part(1, 0, 'a'), "", false, api.OK)
	x.checkHolds(t, 1, 5, 5)
	x.check(t, part(1, 1, 'b'), "abc", true, api.OK)

	x = newPair()
	x.check(t, part(2, 0, 'a'), "", false, api.OK)
	x.check(t, last(2, 3, 'd'), "", false, api.OK)
	x.check(t, part(2, 2, 'c'), "", false, api.OK)
	x.check(t, last(2, 1, 'b'), "ab", true, api.OK)

	x = newPair()
	x.check(t, part(3, 1, 'b'), "", false, api.OK)
	x.check(t, last(3, 1, 'B'), "", false, api.OK)
	x.check(t, part(3, 0, 'a'), "", false, api.OK)
	x.checkHolds(t, 3, 2, 2)
	x.check(t, last(3, 0, 'A'), "", false, api.OK)
	x.check(t, last(3, 3), "", false, api.OK)
	x.check(t, part(3, 2, 'c'), "abc", true, api.OK)

	x = newPair()
	x.check(t, part(4, 5, 'f'), "", false, api.OK)
	x.check(t, last(4, 0, 'a'), "a", true, api.OK)
	x.checkHolds(t, 4, 0, 0)
}

// orders tells all orders of n numbers.
func orders(n int) [][]int {
	if n == 0 {
		return [][]int{nil}
	}
	var out [][]int
	for _, o := range orders(n - 1) {
		for at := range n {
			out = append(out, slices.Insert(slices.Clone(o), at, n-1))
		}
	}
	return out
}

// P10.4: parts in every order come to the bytes, once, with the last of them.
func TestJoinEveryOrder(t *testing.T) {
	for size := 1; size <= 6; size++ {
		b := rising(2*size - 1)
		l, _ := Split(5, b, 2)
		if len(l) != size {
			t.Fatalf("%d bytes have %d parts", len(b), len(l))
		}
		for _, order := range orders(size) {
			x := newPair()
			for i, k := range order {
				if i < size-1 {
					x.check(t, l[k], "", false, api.OK)
				} else {
					x.check(t, l[k], string(b), true, api.OK)
				}
			}
			for _, p := range l {
				x.check(t, p, "", false, api.OK)
			}
		}
	}
}

// P10.4: and so they do if each of them comes twice, at whatever places.
func TestJoinTwice(t *testing.T) {
	b := rising(7)
	l, _ := Split(5, b, 2)
	for _, order := range orders(2 * len(l)) {
		// Those orders alone in which the first of two alike comes first: the others are the same ones again.
		if slices.ContainsFunc(l, func(p api.Part) bool { return slices.Index(order, p.N) > slices.Index(order, p.N+len(l)) }) {
			continue
		}
		x, came := newPair(), map[int]int{}
		for _, k := range order {
			n := k % len(l)
			came[n]++
			if len(came) == len(l) && came[n] == 1 {
				x.check(t, l[n], string(b), true, api.OK)
			} else {
				x.check(t, l[n], "", false, api.OK)
			}
		}
	}
}

// P10.4: the parts of Split of many sizes come to the bytes, in whatever order, some of them twice, written and read on the way.
func TestJoinSplit(t *testing.T) {
	n := noise(4)
	j := New()
	id := uint64(0)
	for _, size := range []int{1, 2, 7, 100, 1023, 1024} {
		for _, length := range []int{0, 1, 2, size - 1, size, size + 1, 3*size + 1, 255 * size, 255*size + 1, 256*size - 1, 256 * size} {
			b := rising(length)
			l, e := Split(id, b, size)
			if e != api.OK {
				t.Fatalf("Split of %d by %d: %v", length, size, e)
			}
			ends, missing, came := 0, len(l), map[int]int{}
			for missing > 0 {
				k := int(n.next() % uint64(len(l)))
				came[k]++
				if came[k] == 1 {
					missing--
				}
				form, _ := Write(l[k])
				p, _ := Read(form)
				out, done, e := j.Take(p)
				if e != api.OK || done != (missing == 0 && came[k] == 1) || done && !bytes.Equal(out, b) {
					t.Fatalf("Take of part %d of %d: %d bytes, %v, %v", k, len(l), len(out), done, e)
				}
				if done {
					ends++
				}
			}
			if ends != 1 {
				t.Fatalf("%d ends", ends)
			}
			id += 1 + n.next()%3
		}
	}
}

// P10.2, P10.3: what may not be answers ErrArg at whatever Id, and changes nothing.
func TestJoinWrong(t *testing.T) {
	wrong := func(id uint64) []api.Part {
		return []api.Part{
			part(id, 0), part(id, 5), part(id, -1, 1), last(id, -1), last(id, 256), part(id, 256, 1), last(id, math.MaxInt, 1), last(id, math.MinInt, 1),
			part(id, 0, rising(1025)...), last(id, 1, rising(1025)...), last(id, 256, rising(1025)...),
		}
	}
	x := newPair()
	all := func() {
		t.Helper()
		for _, id := range []uint64{0, 1, 4, 5, 6, math.MaxUint64} {
			for _, p := range wrong(id) {
				x.check(t, p, "", false, api.ErrArg)
			}
		}
	}
	all()
	x.checkHolds(t, 0, 0, 0)
	x.check(t, part(5, 0, 'a', 'b'), "", false, api.OK)
	all()
	x.checkHolds(t, 5, 1, 2)
	x.check(t, last(5, 1, 'c'), "abc", true, api.OK)
	all()
	x.checkHolds(t, 5, 0, 0)
	x.check(t, last(6, 0, 'd'), "d", true, api.OK)
}

// P10.2, P10.3: a joiner that is not there, and a zero one, take nothing; ErrNil stands ahead of ErrArg.
func TestJoinNotThere(t *testing.T) {
	for name, j := range map[string]*Join{"nil": nil, "zero": {}} {
		for _, p := range []api.Part{{}, last(0, 0), last(1, 0, 'a'), part(1, 0, 'a'), part(1, 0), last(1, 256), last(1, -1), last(1, 0, rising(1025)...)} {
			for range 2 {
				b, done, e := j.Take(p)
				if len(b) != 0 || done || e != api.ErrNil {
					t.Errorf("Take(%d, %d) of a %s joiner = %x, %v, %v", p.Id, p.N, name, b, done, e)
				}
				if id, parts, size := j.Holds(); id != 0 || parts != 0 || size != 0 {
					t.Errorf("Holds of a %s joiner = %d, %d, %d", name, id, parts, size)
				}
			}
		}
	}
}

// P10.2: two joiners know nothing of each other.
func TestJoinersApart(t *testing.T) {
	x, y := newPair(), newPair()
	if x.fast == y.fast {
		t.Fatal("New answers one joiner twice")
	}
	x.check(t, part(1, 0, 'a'), "", false, api.OK)
	y.checkHolds(t, 0, 0, 0)
	y.check(t, last(1, 1, 'B'), "", false, api.OK)
	x.check(t, last(1, 1, 'b'), "ab", true, api.OK)
	y.checkHolds(t, 1, 1, 1)
	y.check(t, part(1, 0, 'A'), "AB", true, api.OK)
}

// P10.2: what an answer's bytes become is nothing to answers behind it.
func TestJoinAnswersApart(t *testing.T) {
	j := New()
	var answers [][]byte
	for id := range uint64(4) {
		j.Take(part(id, 0, 'a', byte(id)))
		b, done, e := j.Take(last(id, 1, 'b'))
		if !done || e != api.OK {
			t.Fatalf("%d: %v, %v", id, done, e)
		}
		answers = append(answers, b)
	}
	for id, b := range answers {
		if !bytes.Equal(b, []byte{'a', byte(id), 'b'}) {
			t.Fatalf("answer %d became %x", id, b)
		}
		spoil(b)
	}
}

// P10.3, P10.4: a joiner that never comes to an end holds all parts that may be, and no more.
func TestJoinMost(t *testing.T) {
	for _, size := range []int{1, 1024} {
		j := New()
		for n := range 256 {
			for _, p := range []api.Part{part(5, n, rising(size)...), part(5, n, 9, 9), last(5, n), last(4, n)} {
				if b, done, e := j.Take(p); len(b) != 0 || done || e != api.OK {
					t.Fatalf("Take(%d, %d) = %d bytes, %v, %v", p.Id, n, len(b), done, e)
				}
				if id, parts, bytes := j.Holds(); id != 5 || parts != n+1 || bytes != (n+1)*size {
					t.Fatalf("Holds behind %d parts = %d, %d, %d", n+1, id, parts, bytes)
				}
			}
		}
		for _, p := range []api.Part{last(5, 255), last(5, 0, 'a'), part(5, 17, 'b')} {
			if b, done, e := j.Take(p); len(b) != 0 || done || e != api.OK {
				t.Fatalf("Take of one more = %d bytes, %v, %v", len(b), done, e)
			}
		}
		if id, parts, bytes := j.Holds(); id != 5 || parts != 256 || bytes != 256*size {
			t.Fatalf("Holds = %d, %d, %d", id, parts, bytes)
		}
		if _, _, e := j.Take(last(6, 256)); e != api.ErrArg {
			t.Fatalf("Take of the part 256: %v", e)
		}
		if b, done, e := j.Take(last(6, 0, 'c')); string(b) != "c" || !done || e != api.OK {
			t.Fatalf("Take of a greater Id = %q, %v, %v", b, done, e)
		}
		if id, parts, bytes := j.Holds(); id != 6 || parts != 0 || bytes != 0 {
			t.Fatalf("Holds = %d, %d, %d", id, parts, bytes)
		}
	}
}

// P10.4: MaxParts parts of MaxPart bytes come to their end, from the back too.
func TestJoinWholeMost(t *testing.T) {
	want := rising(256 * 1024)
	l, _ := Split(9, want, 1024)
	for _, back := range []bool{false, true} {
		if back {
			slices.Reverse(l)
		}
		j := New()
		for i, p := range l {
			b, done, e := j.Take(p)
			if e != api.OK || done != (i == 255) || done && !bytes.Equal(b, want) || !done && len(b) != 0 {
				t.Fatalf("Take of part %d: %d bytes, %v, %v", p.N, len(b), done, e)
			}
		}
	}
}

// P10.2, P10.3: rows of parts that look like chance.
func TestJoinNoise(t *testing.T) {
	n := noise(77)
	ends := 0
	for row := range 1500 {
		x := newPair()
		base := n.next() % 3
		if row%5 == 0 {
			base = math.MaxUint64 - 4
		}
		most := 1 + n.next()%6
		for range 40 {
			p := api.Part{Id: base + n.next()%4, N: int(n.next() % most), Last: n.next()%4 == 0, Bytes: rising(int(n.next() % 4))}
			for i := range p.Bytes {
				p.Bytes[i] = byte(n.next())
			}
			if n.next()%16 == 0 {
				p.N = int(n.next()%520) - 130
			}
			b, done, e := x.slow.take(p)
			x.checkAsSlow(t, p, b, done, e)
			if done {
				ends++
			}
		}
	}
	if ends < 1000 {
		t.Errorf("%d ends alone", ends)
	}
}

// P10.2: what comes is not told by how a joiner's map is gone through: the same row answers the same.
func TestJoinAlike(t *testing.T) {
	row := func() (out []byte) {
		j, n := New(), noise(5)
		for range 400 {
			b, done, e := j.Take(api.Part{Id: n.next() % 40, N: int(n.next() % 5), Last: n.next()%3 == 0, Bytes: []byte{byte(n.next())}})
			id, parts, size := j.Holds()
			out = append(append(out, b...), byte(e), byte(id), byte(parts), byte(size))
			if done {
				out = append(out, '!')
			}
		}
		return out
	}
	first := row()
	for range 20 {
		if !bytes.Equal(row(), first) {
			t.Fatal("the same row answers something else")
		}
	}
}
