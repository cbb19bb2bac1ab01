package utf

import (
	"slices"
	"testing"
)

// checkReader hands bytes to a reader of nothing one by one, and holds what each Take, Waits and End tell to the slow reading, all of it together to Decode, and what is answered to being its own.
func checkReader(t *testing.T, p *Reader, b []byte) {
	t.Helper()
	var all []rune
	for i, x := range b {
		l := p.Take(x)
		all = append(all, l...)
		spoil(l)
		certain, waits := slowCertain(b[:i+1])
		if !slices.Equal(all, certain) || p.Waits() != waits || waits > 3 {
			t.Fatalf("% x: told %d, %d wait, want %d, %d", b[:i+1], all, p.Waits(), certain, waits)
		}
	}
	left := p.Waits()
	l := p.End()
	all = append(all, l...)
	spoil(l)
	if left == 0 && len(l) != 0 || left > 0 && len(l) != 1 || !slices.Equal(all, Decode(b)) || p.Waits() != 0 {
		t.Fatalf("% x: End tells %d of %d bytes, all is %d, want %d", b, len(l), left, all, Decode(b))
	}
	if l := p.End(); len(l) != 0 || p.Waits() != 0 {
		t.Fatalf("% x: a second End tells %d, %d wait", b, l, p.Waits())
	}
}

// P11.2: the example of the chapter.
func TestReaderExample(t *testing.T) {
	p := New()
	if l := p.Take(0xc3); len(l) != 0 {
		t.Errorf("Take(c3) = %d", l)
	}
	if l := p.Take(0xa9); !slices.Equal(l, []rune{233}) {
		t.Errorf("Take(a9) = %d", l)
	}
}

// step is a byte, what Take tells of it, and what Waits is behind it.
type step struct {
	b     byte
	told  []rune
	waits int
}

// checkSteps holds a reader of nothing to steps, and End behind them to what is left.
func checkSteps(t *testing.T, p *Reader, steps ...step) {
	t.Helper()
	var end []rune
	for i, x := range steps {
		if l := p.Take(x.b); !slices.Equal(l, x.told) || p.Waits() != x.waits {
			t.Fatalf("step %d: Take(%x) = %d, %d wait, want %d, %d", i, x.b, l, p.Waits(), x.told, x.waits)
		}
		end = nil
		if x.waits > 0 {
			end = []rune{r}
		}
	}
	if l := p.End(); !slices.Equal(l, end) || p.Waits() != 0 {
		t.Fatalf("End = %d, %d wait, want %d", l, p.Waits(), end)
	}
	if l := p.End(); len(l) != 0 || p.Waits() != 0 {
		t.Fatalf("a second End = %d, %d wait", l, p.Waits())
	}
}

// stepRows is rows of steps by hand.
func stepRows() [][]step {
	one, two := []rune{r}, []rune{r, r}
	return [][]step{
		{},
		{{'a', []rune{'a'}, 0}, {0, []rune{0}, 0}, {0x7f, []rune{127}, 0}},
		{{0xc3, nil, 1}, {0xa9, []rune{233}, 0}},
		{{0xe2, nil, 1}, {0x82, nil, 2}, {0xac, []rune{0x20ac}, 0}},
		{{0xf0, nil, 1}, {0x9f, nil, 2}, {0x98, nil, 3}, {0x80, []rune{128512}, 0}},
		// left at the end
		{{0xc2, nil, 1}},
		{{0xf4, nil, 1}, {0x8f, nil, 2}},
		{{0xf0, nil, 1}, {0x90, nil, 2}, {0x80, nil, 3}},
		// cut short by a character, by a beginning, by what begins none
		{{0xf0, nil, 1}, {0x90, nil, 2}, {'a', []rune{r, 'a'}, 0}},
		{{0xf0, nil, 1}, {0x90, nil, 2}, {0x80, nil, 3}, {0, []rune{r, 0}, 0}},
		{{0xe2, nil, 1}, {0xe2, one, 1}, {0x82, nil, 2}, {0xf1, one, 1}, {0x80, nil, 2}, {0xc3, one, 1}, {0xa9, []rune{233}, 0}},
		{{0xf1, nil, 1}, {0x80, nil, 2}, {0xbf, nil, 3}, {0xf2, one, 1}},
		{{0xe2, nil, 1}, {0x82, nil, 2}, {0xff, two, 0}},
		{{0xc3, nil, 1}, {0xc0, two, 0}, {0x80, one, 0}},
		// what begins none is certain at once
		{{0xff, one, 0}, {0x80, one, 0}, {0xbf, one, 0}, {0xc0, one, 0}, {0xc1, one, 0}, {0xf5, one, 0}, {0xfe, one, 0}},
		// what could not become a character any more is certain, too
		{{0xe0, nil, 1}, {0x9f, two, 0}, {0xbf, one, 0}},
		{{0xe0, nil, 1}, {0xa0, nil, 2}, {0x80, []rune{2048}, 0}},
		{{0xed, nil, 1}, {0xa0, two, 0}, {0x80, one, 0}},
		{{0xed, nil, 1}, {0x9f, nil, 2}, {0xbf, []rune{55295}, 0}},
		{{0xf0, nil, 1}, {0x8f, two, 0}, {0xbf, one, 0}, {0xbf, one, 0}},
		{{0xf0, nil, 1}, {0x90, nil, 2}, {0x80, nil, 3}, {0x80, []rune{65536}, 0}},
		{{0xf4, nil, 1}, {0x90, two, 0}, {0x80, one, 0}, {0x80, one, 0}},
		{{0xf4, nil, 1}, {0x8f, nil, 2}, {0xbf, nil, 3}, {0xbf, []rune{1114111}, 0}, {0xbf, one, 0}},
		// the replacement's own form
		{{0xef, nil, 1}, {0xbf, nil, 2}, {0xbd, one, 0}, {0xef, nil, 1}, {0xbf, nil, 2}},
	}
}

// P11.2: readers step by step, new ones and one that all rows are handed to, each behind an End.
func TestReaderSteps(t *testing.T) {
	used := New()
	for _, steps := range stepRows() {
		checkSteps(t, New(), steps...)
		checkSteps(t, used, steps...)
	}
	for _, steps := range slices.Backward(stepRows()) {
		checkSteps(t, used, steps...)
	}
}

// P11.2: a reader of nothing tells nothing and waits for nothing.
func TestReaderNew(t *testing.T) {
	p := New()
	if p == nil || p.Waits() != 0 || len(p.End()) != 0 || len(p.End()) != 0 || p.Waits() != 0 {
		t.Error("a new reader has something")
	}
}

// P11.2: a form cut short by the End does not go on behind it, at whatever place.
func TestReaderBehindEnd(t *testing.T) {
	for _, x := range edges() {
		for size := 1; size < len(x.form); size++ {
			p := New()
			for _, b := range x.form[:size] {
				if l := p.Take(b); len(l) != 0 {
					t.Fatalf("Take(%x) of % x = %d", b, x.form, l)
				}
			}
			if p.Waits() != size {
				t.Fatalf("%d wait, want %d", p.Waits(), size)
			}
			if l := p.End(); !slices.Equal(l, []rune{r}) || p.Waits() != 0 {
				t.Fatalf("End behind % x = %d, %d wait", x.form[:size], l, p.Waits())
			}
			for _, b := range x.form[size:] {
				if l := p.Take(b); !slices.Equal(l, []rune{r}) || p.Waits() != 0 {
					t.Fatalf("Take(%x) behind the End = %d, %d wait", b, l, p.Waits())
				}
			}
			checkReader(t, p, x.form)
		}
	}
}

// P11.2: one that is not there, and a zero one, tell nothing, whatever they are handed.
func TestReaderNotThere(t *testing.T) {
	for _, p := range []*Reader{nil, {}, new(Reader)} {
		for i := range 256 {
			if l := p.Take(byte(i)); len(l) != 0 || p.Waits() != 0 {
				t.Fatalf("Take(%x) of one that is not there = %d, %d wait", i, l, p.Waits())
			}
			if l := p.End(); len(l) != 0 || p.Waits() != 0 {
				t.Fatalf("End of one that is not there = %d, %d wait", l, p.Waits())
			}
		}
		for _, b := range []byte{0xf0, 0x9f, 0x98, 0x80, 'a'} {
			if l := p.Take(b); len(l) != 0 || p.Waits() != 0 {
				t.Fatalf("Take(%x) of one that is not there = %d, %d wait", b, l, p.Waits())
			}
		}
		if l := p.End(); len(l) != 0 {
			t.Fatalf("End of one that is not there = %d", l)
		}
	}
}

// P11.2: what Waits tells does not hang on being asked, and asking changes nothing.
func TestReaderWaitsTwice(t *testing.T) {
	p := New()
	for i, b := range []byte{0xf0, 0x9f, 0x98} {
		p.Take(b)
		for range 3 {
			if p.Waits() != i+1 {
				t.Fatalf("%d wait, want %d", p.Waits(), i+1)
			}
		}
	}
	if l := p.Take(0x80); !slices.Equal(l, []rune{128512}) || p.Waits() != 0 || p.Waits() != 0 {
		t.Fatalf("Take(80) = %d, %d wait", l, p.Waits())
	}
}

// P11.2: readers do not hang on each other.
func TestReadersApart(t *testing.T) {
	x, y := New(), New()
	if x == y {
		t.Fatal("two new readers are one")
	}
	x.Take(0xf0)
	y.Take(0xe2)
	x.Take(0x9f)
	if x.Waits() != 2 || y.Waits() != 1 {
		t.Fatalf("%d and %d wait, want 2 and 1", x.Waits(), y.Waits())
	}
	y.Take(0x82)
	x.Take(0x98)
	if l := y.End(); !slices.Equal(l, []rune{r}) || x.Waits() != 3 {
		t.Fatalf("End = %d, %d of the other wait", l, x.Waits())
	}
	if l := x.Take(0x80); !slices.Equal(l, []rune{128512}) {
		t.Fatalf("Take(80) = %d", l)
	}
}

// P11.2: no two answers of a reader share memory, and none shares any with the reader.
func TestReaderAnswersApart(t *testing.T) {
	p := New()
	var got, want [][]rune
	n := noise(7)
	for range 300 {
		for _, b := range noisyBytes(&n, 3) {
			l := p.Take(b)
			got, want = append(got, l), append(want, slices.Clone(l))
		}
		if n.next()%3 == 0 {
			l := p.End()
			got, want = append(got, l), append(want, slices.Clone(l))
		}
	}
	for i := range got {
		if !slices.Equal(got[i], want[i]) {
			t.Fatalf("answer %d was changed by a later call", i)
		}
		spoil(got[i])
		for k := i + 1; k < len(got); k++ {
			if !slices.Equal(got[k], want[k]) {
				t.Fatalf("the answers %d and %d share memory", i, k)
			}
		}
	}
	p.Take(0xf0)
	spoil(p.Take('a'))
	spoil(p.Take(0xff))
	p.Take(0xe2)
	spoil(p.End())
	checkReader(t, p, []byte{0xe2, 0x82, 0xac, 0xe2, 0x82, 'a'})
}

// P11.2: what a reader tells is what is decoded alike, whatever comes: not less, and not more.
func TestReaderCertain(t *testing.T) {
	var behind [][]byte
	for size := range 4 {
		behind = append(behind, rows([]byte{'a', 0x80, 0x8f, 0x90, 0x9f, 0xa0, 0xbf, 0xc3, 0xf0, 0xff}, size)...)
	}
	check := func(b []byte) {
		p := New()
		var all []rune
		for _, x := range b {
			all = append(all, p.Take(x)...)
		}
		if want := slowTried(b, behind); !slices.Equal(all, want) {
			t.Fatalf("% x: told %d, want %d", b, all, want)
		}
	}
	check(nil)
	for i := range 256 {
		check([]byte{byte(i)})
	}
	for _, b := range rows(edgeBytes(), 2) {
		check(b)
	}
	for _, x := range edges() {
		for size := 1; size <= len(x.form); size++ {
			check(x.form[:size])
			check(slices.Concat([]byte{0xe1, 0x80}, x.form[:size]))
		}
	}
}

// P11.3: many bytes, one by one, with Ends among them, are each what Decode tells of what stands between two Ends.
func TestReaderAsDecode(t *testing.T) {
	n := noise(29)
	p := New()
	for range 3000 {
		checkReader(t, p, noisyBytes(&n, int(n.next()%6)))
	}
	b := noisyBytes(&n, 50000)
	var all []rune
	for _, x := range b {
		all = append(all, p.Take(x)...)
	}
	all = append(all, p.End()...)
	if !slices.Equal(all, Decode(b)) || !slices.Equal(all, slowDecode(b)) {
		t.Error("what a reader tells of many bytes is not what Decode tells")
	}
}
