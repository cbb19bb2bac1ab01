package wire

import (
	"bytes"
	"math"
	"math/big"
	"slices"
	"testing"

	"wayfarer/api"
)

// filled is so many bytes, no two neighbours alike.
func filled(count int) []byte {
	b := make([]byte, count)
	for i := range b {
		b[i] = byte(i*7 + i>>8)
	}
	return b
}

// joined is lists one behind the other, in new memory.
func joined(l ...[]byte) []byte {
	return slices.Concat(l...)
}

// roomy is a list with room behind its end, which is filled.
func roomy[T any](l []T, fill T) []T {
	room := append(slices.Clone(l), fill, fill, fill, fill)
	return room[:len(l)]
}

// spoil turns all bytes of an answer about, those in the room behind its end too.
func spoil(b []byte) {
	for i := range b[:cap(b)] {
		b[:cap(b)][i] ^= 255
	}
}

// cloned is events that share nothing with those that are handed in, and have room behind their bytes.
func cloned(l []api.Event) []api.Event {
	out := slices.Clone(l)
	for i := range out {
		out[i].Bytes = roomy(out[i].Bytes, 0x5a)
	}
	return out
}

// wholly is events with the room behind their bytes as a part of these.
func wholly(l []api.Event) []api.Event {
	out := slices.Clone(l)
	for i := range out {
		out[i].Bytes = out[i].Bytes[:cap(out[i].Bytes)]
	}
	return out
}

func sameInstruction(x, y api.Instruction) bool {
	return x.Old == y.Old && x.New == y.New && x.Ack == y.Ack && x.Throw == y.Throw && bytes.Equal(x.Diff, y.Diff)
}

// sameEvent is asked for all fields one by one, not by Same.
func sameEvent(x, y api.Event) bool {
	return x.Kind == y.Kind && x.Cols == y.Cols && x.Rows == y.Rows && x.Arrow == y.Arrow && string(x.Bytes) == string(y.Bytes)
}

func sameEvents(l, m []api.Event) bool {
	return slices.EqualFunc(l, m, sameEvent)
}

// checkReadUint holds ReadUint to an answer and to the slow reading, and what it was handed to staying as it is.
func checkReadUint(t *testing.T, b []byte, n uint64, size int, e api.Errno) {
	t.Helper()
	handed := roomy(b, 0)
	whole := slices.Clone(handed[:cap(handed)])
	if gotN, gotSize, got := ReadUint(handed); gotN != n || gotSize != size || got != e {
		t.Fatalf("ReadUint(%x) = %d, %d, %v, want %d, %d, %v", b, gotN, gotSize, got, n, size, e)
	}
	if slowN, slowSize, slow := slowReadUint(b); slowN != n || slowSize != size || slow != e {
		t.Fatalf("the document's words make %d, %d, %v of %x", slowN, slowSize, slow, b)
	}
	if !bytes.Equal(handed[:cap(handed)], whole) {
		t.Fatalf("ReadUint(%x) changed what it was handed", b)
	}
}

// checkWrite holds Write to an answer, to being read again, and what it was handed to staying as it is.
func checkWrite(t *testing.T, x api.Instruction, want []byte, e api.Errno) {
	t.Helper()
	handed := x
	handed.Diff = roomy(x.Diff, 0x5a)
	whole := slices.Clone(handed.Diff[:cap(handed.Diff)])
	out, got := Write(handed)
	if !bytes.Equal(out, want) || got != e {
		t.Fatalf("Write(%d bytes) = %.40x (%d bytes), %v, want %.40x (%d bytes), %v", len(x.Diff), out, len(out), got, want, len(want), e)
	}
	if y, read := Read(out); e == api.OK && (!sameInstruction(x, y) || read != api.OK) {
		t.Fatalf("Read(%.40x) = %v, which was not written", out, read)
	}
	again, _ := Write(handed)
	spoil(out)
	if !bytes.Equal(again, want) {
		t.Fatal("two answers of Write share memory")
	}
	if !bytes.Equal(handed.Diff[:cap(handed.Diff)], whole) {
		t.Fatal("Write changed what it was handed, or answers it")
	}
}

// checkRead holds Read to an error and to the slow reading, to being written again, and what it was handed to staying as it is.
func checkRead(t *testing.T, b []byte, e api.Errno) {
	t.Helper()
	handed := roomy(b, 0)
	whole := slices.Clone(handed[:cap(handed)])
	want, slow := slowRead(b)
	x, got := Read(handed)
	if !sameInstruction(x, want) || got != e || slow != e {
		t.Fatalf("Read(%.40x of %d bytes) = %.40v, %v, want %.40v, %v (or %v)", b, len(b), x, got, want, e, slow)
	}
	if out, written := Write(x); e == api.OK && (!bytes.Equal(out, b) || written != api.OK) {
		t.Fatalf("what was read of %.40x is written as %.40x, %v", b, out, written)
	}
	again, _ := Read(handed)
	spoil(x.Diff)
	if !sameInstruction(again, want) {
		t.Fatal("two answers of Read share memory")
	}
	if !bytes.Equal(handed[:cap(handed)], whole) {
		t.Fatal("Read changed what it was handed, or answers it")
	}
}

// checkWriteEvents holds WriteEvents to an error and to the slow reading, to being read again, and what it was handed to staying as it is.
func checkWriteEvents(t *testing.T, l []api.Event, e api.Errno) []byte {
	t.Helper()
	handed := roomy(cloned(l), api.Event{Kind: 9, Cols: 9})
	whole := wholly(cloned(wholly(handed[:cap(handed)])))
	want, slow := slowWriteEvents(l)
	out, got := WriteEvents(handed...)
	if !bytes.Equal(out, want) || got != e || slow != e {
		t.Fatalf("WriteEvents(%d events) = %.40x (%d bytes), %v, want %.40x (%d bytes), %v (or %v)", len(l), out, len(out), got, want, len(want), e, slow)
	}
	if m, read := ReadEvents(out); e == api.OK && (!sameEvents(l, m) || read != api.OK) {
		t.Fatalf("ReadEvents(%.40x) = %d events, %v, which were not written", out, len(m), read)
	}
	again, _ := WriteEvents(handed...)
	spoil(out)
	if !bytes.Equal(again, want) {
		t.Fatal("two answers of WriteEvents share memory")
	}
	if !sameEvents(wholly(cloned(wholly(handed[:cap(handed)]))), whole) {
		t.Fatal("WriteEvents changed what it was handed, or answers it")
	}
	return again
}

// checkReadEvents holds ReadEvents to an error and to the slow reading, to being written again, and what it was handed to staying as it is.
func checkReadEvents(t *testing.T, b []byte, e api.Errno) {
	t.Helper()
	handed := roomy(b, 0)
	whole := slices.Clone(handed[:cap(handed)])
	want, slow := slowReadEvents(b)
	l, got := ReadEvents(handed)
	if !sameEvents(l, want) || got != e || slow != e {
		t.Fatalf("ReadEvents(%.40x of %d bytes) = %d events, %v, want %d, %v (or %v)", b, len(b), len(l), got, len(want), e, slow)
	}
	if out, written := WriteEvents(l...); e == api.OK && (!bytes.Equal(out, b) || written != api.OK) {
		t.Fatalf("what was read of %.40x is written as %.40x, %v", b, out, written)
	}
	again, _ := ReadEvents(handed)
	for i := range l {
		spoil(l[i].Bytes)
		if !sameEvents(l[i+1:], want[i+1:]) {
			t.Fatal("two events of one answer share memory")
		}
	}
	if !sameEvents(again, want) {
		t.Fatal("two answers of ReadEvents share memory")
	}
	if !bytes.Equal(handed[:cap(handed)], whole) {
		t.Fatal("ReadEvents changed what it was handed, or answers it")
	}
}

func keys(b ...byte) api.Event          { return api.Event{Kind: api.EBytes, Bytes: b} }
func resize(cols, rows int) api.Event   { return api.Event{Kind: api.EResize, Cols: cols, Rows: rows} }
func paste(b ...byte) api.Event         { return api.Event{Kind: api.EPaste, Bytes: b} }
func arrow(a byte) api.Event            { return api.Event{Kind: api.EArrow, Arrow: a} }
func listed(l ...api.Event) []api.Event { return l }

// edges is the numbers at which the form has another size, with their neighbours.
func edges() []uint64 {
	l := []uint64{0, 1, 2, 300, math.MaxUint64, math.MaxUint64 - 1}
	for shift := range 64 {
		l = append(l, 1<<shift-1, 1<<shift, 1<<shift+1)
	}
	return l
}

// P7.1: the examples of the chapter.
func TestNumberExamples(t *testing.T) {
	for _, c := range []struct {
		n    uint64
		want []byte
	}{
		{0, []byte{0}}, {1, []byte{1}}, {127, []byte{127}}, {128, []byte{128, 1}}, {300, []byte{0xac, 2}}, {16383, []byte{255, 127}}, {16384, []byte{128, 128, 1}},
		{1 << 63, []byte{128, 128, 128, 128, 128, 128, 128, 128, 128, 1}},
		{1<<63 - 1, []byte{255, 255, 255, 255, 255, 255, 255, 255, 127}},
		{math.MaxUint64, []byte{255, 255, 255, 255, 255, 255, 255, 255, 255, 1}},
	} {
		if b := Uint(c.n); !bytes.Equal(b, c.want) {
			t.Errorf("Uint(%d) = %x, want %x", c.n, b, c.want)
		}
	}
	checkReadUint(t, []byte{0xac, 2, 0xff}, 300, 2, api.OK)
	checkReadUint(t, []byte{0x80}, 0, 0, api.ErrShort)
	checkReadUint(t, []byte{0x80, 0}, 0, 0, api.ErrForm)
}

// P7.1: numbers at each edge, cut short at each byte, with bytes behind.
func TestNumberEdges(t *testing.T) {
	for _, n := range edges() {
		b := Uint(n)
		if want := slowUint(new(big.Int).SetUint64(n)); !bytes.Equal(b, want) {
			t.Fatalf("Uint(%d) = %x, want %x", n, b, want)
		}
		again := Uint(n)
		spoil(again)
		for _, behind := range [][]byte{nil, {0}, {1}, {127}, {128}, {255}, bytes.Repeat([]byte{255}, 20)} {
			checkReadUint(t, joined(b, behind), n, len(b), api.OK)
		}
		for cut := range b {
			checkReadUint(t, b[:cut], 0, 0, api.ErrShort)
		}
	}
	checkReadUint(t, nil, 0, 0, api.ErrShort)
	checkReadUint(t, []byte{}, 0, 0, api.ErrShort)
}

// P7.1: a last byte 0 that is one too many, or more than one.
func TestNumberTooLong(t *testing.T) {
	for _, n := range edges() {
		b := Uint(n)
		b[len(b)-1] |= 128
		for len(b) < 10 {
			checkReadUint(t, joined(b, []byte{0}), 0, 0, api.ErrForm)
			checkReadUint(t, joined(b, []byte{0, 1, 2}), 0, 0, api.ErrForm)
			b = append(b, 128)
		}
	}
}

// P7.1: ten bytes that tell more than a number holds, or go on.
func TestNumberTooGreat(t *testing.T) {
	for _, first := range []byte{128, 129, 200, 255} {
		nine := bytes.Repeat([]byte{first}, 9)
		checkReadUint(t, nine, 0, 0, api.ErrShort)
		for last := range 256 {
			ten := joined(nine, []byte{byte(last)})
			if last == 1 {
				n, _, _ := slowReadUint(ten)
				checkReadUint(t, ten, n, 10, api.OK)
				continue
			}
			checkReadUint(t, ten, 0, 0, api.ErrForm)
			checkReadUint(t, append(ten, 0), 0, 0, api.ErrForm)
			checkReadUint(t, append(ten, 1), 0, 0, api.ErrForm)
		}
	}
	checkReadUint(t, bytes.Repeat([]byte{128}, 20), 0, 0, api.ErrForm)
	checkReadUint(t, bytes.Repeat([]byte{255}, 20), 0, 0, api.ErrForm)
}

// P7.1, P7.4: all pairs of bytes as the words say; a number has no other form.
func TestNumberAll(t *testing.T) {
	seen := map[uint64]int{}
	for n := range 1 << 16 {
		b := []byte{byte(n), byte(n >> 8)}
		number, size, e := ReadUint(b)
		wantNumber, wantSize, want := slowReadUint(b)
		if number != wantNumber || size != wantSize || e != want {
			t.Fatalf("ReadUint(%x) = %d, %d, %v, want %d, %d, %v", b, number, size, e, wantNumber, wantSize, want)
		}
		if e != api.OK {
			continue
		}
		if !bytes.Equal(Uint(number), b[:size]) {
			t.Fatalf("%d, read of %x, is written as %x", number, b[:size], Uint(number))
		}
		if size == 2 {
			seen[number]++
		}
	}
	for number, times := range seen {
		if times != 1 {
			t.Fatalf("%d has %d forms", number, times)
		}
	}
}

// P7.2: the examples of the chapter.
func TestInstructionExamples(t *testing.T) {
	x := api.Instruction{Old: 1, New: 2, Throw: 1, Diff: []byte{0x61}}
	form := []byte{1, 2, 0, 1, 1, 0x61}
	checkWrite(t, x, form, api.OK)
	if y, e := Read(form); !sameInstruction(x, y) || e != api.OK {
		t.Errorf("Read(%x) = %v, %v", form, y, e)
	}
	checkRead(t, form, api.OK)
	checkRead(t, append(form, 0), api.ErrForm)
}

// P7.2, P7.4: each number at its edges, and Diff of no bytes, of few, of 65536 and one more.
func TestInstructionEdges(t *testing.T) {
	for _, n := range edges() {
		for place := range 4 {
			numbers := [4]uint64{5, 300, 7, 8}
			numbers[place] = n
			x := api.Instruction{Old: numbers[0], New: numbers[1], Ack: numbers[2], Throw: numbers[3], Diff: []byte{9, 200}}
			form := joined(Uint(numbers[0]), Uint(numbers[1]), Uint(numbers[2]), Uint(numbers[3]), []byte{2, 9, 200})
			checkWrite(t, x, form, api.OK)
			checkRead(t, form, api.OK)
		}
	}
	for _, size := range []int{0, 1, 127, 128, 16383, 16384, 65535, 65536} {
		diff := filled(size)
		form := joined([]byte{3, 4, 5, 6}, Uint(uint64(size)), diff)
		checkWrite(t, api.Instruction{Old: 3, New: 4, Ack: 5, Throw: 6, Diff: diff}, form, api.OK)
		checkRead(t, form, api.OK)
		checkRead(t, append(form, 0), api.ErrForm)
		if size > 0 {
			checkRead(t, form[:len(form)-1], api.ErrShort)
		}
	}
	checkWrite(t, api.Instruction{}, []byte{0, 0, 0, 0, 0}, api.OK)
	checkWrite(t, api.Instruction{Diff: []byte{}}, []byte{0, 0, 0, 0, 0}, api.OK)
	for _, size := range []int{65537, 70000, 1 << 20} {
		diff := filled(size)
		checkWrite(t, api.Instruction{Old: 3, New: 4, Diff: diff}, nil, api.ErrArg)
		checkRead(t, joined([]byte{3, 4, 0, 0}, Uint(uint64(size)), diff), api.ErrForm)
	}
}

// P7.2: forms that end at each byte.
func TestInstructionShort(t *testing.T) {
	x := api.Instruction{Old: 1 << 63, New: math.MaxUint64, Ack: 300, Throw: 1 << 40, Diff: filled(200)}
	form, e := Write(x)
	if e != api.OK {
		t.Fatal(e)
	}
	for cut := range form {
		checkRead(t, form[:cut], api.ErrShort)
	}
	checkRead(t, nil, api.ErrShort)
	checkRead(t, form, api.OK)
}

// P7.2: a number that is none's form at each place; what is wrong first from the left is told.
func TestInstructionWrong(t *testing.T) {
	none := [][]byte{{128, 0}, {255, 128, 0}, joined(bytes.Repeat([]byte{128}, 9), []byte{2}), bytes.Repeat([]byte{255}, 10)}
	for place := range 5 {
		ahead := bytes.Repeat([]byte{0xac, 2}, place)
		for _, number := range none {
			checkRead(t, joined(ahead, number), api.ErrForm)
			checkRead(t, joined(ahead, number, filled(50)), api.ErrForm)
			checkRead(t, joined(ahead, number, []byte{128}), api.ErrForm)
			checkRead(t, joined(ahead, number[:len(number)-1]), api.ErrShort)
		}
	}
}

// P7.2: a Diff that would have too many bytes is no form's, whether they are there or not.
func TestInstructionTooGreat(t *testing.T) {
	for _, size := range []uint64{65537, 65538, 1 << 20, 1 << 31, 1 << 32, 1<<32 + 1, 1<<63 - 1, 1 << 63, math.MaxUint64} {
		form := joined([]byte{1, 2, 3, 4}, Uint(size))
		checkRead(t, form, api.ErrForm)
		checkRead(t, append(form, 0, 0), api.ErrForm)
		checkRead(t, form[:len(form)-1], api.ErrShort)
	}
	checkRead(t, joined([]byte{1, 2, 3, 4}, Uint(65536)), api.ErrShort)
	checkRead(t, joined([]byte{1, 2, 3, 4}, Uint(65536), filled(65535)), api.ErrShort)
}

// eachForm calls a function with all lists of some bytes, up to a length.
func eachForm(alphabet []byte, most int, call func([]byte)) {
	b := make([]byte, 0, most)
	var walk func()
	walk = func() {
		call(b)
		if len(b) == most {
			return
		}
		for _, c := range alphabet {
			b = append(b, c)
			walk()
			b = b[:len(b)-1]
		}
	}
	walk()
}

// P7.2, P7.4: all short forms of telling bytes, as the words say.
func TestInstructionAll(t *testing.T) {
	counts := map[api.Errno]int{}
	eachForm([]byte{0, 1, 2, 128, 255}, 7, func(b []byte) {
		want, e := slowRead(b)
		x, got := Read(b)
		if !sameInstruction(x, want) || got != e {
			t.Fatalf("Read(%x) = %v, %v, want %v, %v", b, x, got, want, e)
		}
		if out, written := Write(x); e == api.OK && (!bytes.Equal(out, b) || written != api.OK) {
			t.Fatalf("what was read of %x is written as %x, %v", b, out, written)
		}
		counts[e]++
	})
	if counts[api.OK] < 100 || counts[api.ErrShort] < 100 || counts[api.ErrForm] < 100 {
		t.Fatalf("the forms are all alike: %v", counts)
	}
}

// P7.3: the examples of the chapter.
func TestEventExamples(t *testing.T) {
	form := checkWriteEvents(t, listed(arrow(0x41), resize(80, 24)), api.OK)
	if !bytes.Equal(form, []byte{2, 4, 0x41, 2, 0x50, 0x18}) {
		t.Errorf("WriteEvents = %x", form)
	}
	checkReadEvents(t, form, api.OK)
	checkReadEvents(t, []byte{1, 5}, api.ErrForm)
	checkReadEvents(t, []byte{2}, api.ErrShort)
}

// mayCases is events of all kinds at each edge, and whether they may be.
func mayCases() map[bool][]api.Event {
	cases := map[bool][]api.Event{}
	add := func(may bool, l ...api.Event) { cases[may] = append(cases[may], l...) }
	add(true, keys(0), keys(filled(2)...), keys(filled(127)...), keys(filled(128)...), keys(filled(4095)...), keys(filled(4096)...))
	add(false, keys(), api.Event{Kind: api.EBytes, Bytes: []byte{}}, keys(filled(4097)...), keys(filled(70000)...))
	add(true, paste(), api.Event{Kind: api.EPaste, Bytes: []byte{}}, paste(1), paste(filled(4095)...), paste(filled(4096)...))
	add(false, paste(filled(4097)...), paste(filled(70000)...))
	sides := map[bool][]int{true: {1, 2, 127, 128, 511, 512}, false: {0, -1, -512, 513, 65536 + 1, math.MinInt, math.MaxInt, 1 << 32, 1<<32 + 1}}
	for _, side := range sides[true] {
		add(true, resize(side, 1), resize(1, side), resize(side, 512))
		for _, wrong := range sides[false] {
			add(false, resize(side, wrong), resize(wrong, side), resize(wrong, wrong))
		}
	}
	for a := range 256 {
		add(a >= 'A' && a <= 'D', arrow(byte(a)))
	}
	for _, kind := range []api.EventKind{0, 5, 6, 127, 128, 129, 130, 131, 132, 255} {
		add(false, api.Event{Kind: kind}, api.Event{Kind: kind, Bytes: []byte{1}}, api.Event{Kind: kind, Cols: 1, Rows: 1}, api.Event{Kind: kind, Arrow: 'A'})
	}
	for _, x := range []api.Event{keys(1), paste(), paste(1)} {
		for _, beside := range []int{1, -1, 80, math.MinInt} {
			y, z := x, x
			y.Cols, z.Rows = beside, beside
			add(false, y, z)
		}
		x.Arrow = 'A'
		add(false, x)
		x.Arrow = 1
		add(false, x)
	}
	for _, x := range []api.Event{resize(1, 1), resize(512, 512)} {
		y, z := x, x
		y.Bytes, z.Arrow = []byte{0}, 'A'
		add(false, y, z)
	}
	for _, a := range []byte("ABCD") {
		x, y, z := arrow(a), arrow(a), arrow(a)
		x.Bytes, y.Cols, z.Rows = []byte{0}, 1, 1
		add(false, x, y, z)
		x.Bytes = []byte{}
		add(true, x)
	}
	return cases
}

// P7.3: May at each edge of what may be, and what is written then.
func TestMay(t *testing.T) {
	for may, l := range mayCases() {
		e := api.OK
		if !may {
			e = api.ErrArg
		}
		for _, x := range l {
			if May(x) != may || slowMay(x) != may {
				t.Fatalf("May(%d, %d bytes, %d, %d, %d) = %v, want %v", x.Kind, len(x.Bytes), x.Cols, x.Rows, x.Arrow, May(x), may)
			}
			checkWriteEvents(t, listed(x), e)
			checkWriteEvents(t, listed(arrow('B'), x, resize(3, 4)), e)
		}
	}
}

// P7.3: May and Same change nothing of what they are handed.
func TestAskedUnchanged(t *testing.T) {
	for _, l := range mayCases() {
		handed := cloned(l)
		whole := wholly(cloned(wholly(handed)))
		for i := range handed {
			May(handed[i])
			Same(handed[i], handed[0])
		}
		if !sameEvents(wholly(cloned(wholly(handed))), whole) {
			t.Fatal("May or Same changed what it was handed")
		}
	}
}

// P7.3: Same asks for all fields, of events that may be or not.
func TestSame(t *testing.T) {
	l := []api.Event{
		{}, keys(1), keys(2), keys(1, 2), keys(2, 1), keys(1, 2, 3), keys(), paste(), paste(1), paste(1, 2), resize(1, 2), resize(2, 1), resize(1, 1), resize(2, 2), resize(-1, 1), resize(0, 1), arrow('A'), arrow('B'), arrow(0), arrow(1),
		{Bytes: []byte{1}}, {Cols: 1}, {Rows: 1}, {Arrow: 1}, {Kind: 9}, {Kind: 9, Bytes: []byte{1}, Cols: 1, Rows: 1, Arrow: 1}, {Kind: 9, Bytes: []byte{0}, Cols: 1, Rows: 1, Arrow: 1}, {Kind: 9, Bytes: []byte{1}, Rows: 1, Arrow: 1},
	}
	for i, x := range l {
		for k, y := range l {
			copied := cloned(listed(y))[0]
			if Same(x, copied) != (i == k) || Same(copied, x) != (i == k) {
				t.Errorf("Same(%v, %v) = %v", x, y, Same(x, copied))
			}
		}
	}
	if !Same(api.Event{Bytes: []byte{}}, api.Event{}) || !Same(paste(), api.Event{Kind: api.EPaste, Bytes: []byte{}}) {
		t.Error("no bytes and an empty list are not the same")
	}
}

// P7.3: 4096 events and one more; what may not be is told ahead of the limit, wherever it stands.
func TestManyEvents(t *testing.T) {
	many := slices.Repeat(listed(arrow('D')), 4097)
	checkWriteEvents(t, nil, api.OK)
	checkWriteEvents(t, listed(), api.OK)
	checkReadEvents(t, []byte{0}, api.OK)
	checkReadEvents(t, checkWriteEvents(t, many[:4095], api.OK), api.OK)
	checkReadEvents(t, checkWriteEvents(t, many[:4096], api.OK), api.OK)
	checkWriteEvents(t, many, api.ErrLimit)
	for _, place := range []int{0, 1, 2000, 4095, 4096, 4097} {
		checkWriteEvents(t, slices.Insert(slices.Clone(many), place, arrow('E')), api.ErrArg)
	}
	checkWriteEvents(t, append(slices.Clone(many[:4096]), api.Event{}), api.ErrArg)

	form := bytes.Repeat([]byte{4, 'D'}, 4097)
	checkReadEvents(t, joined(Uint(4097), form), api.ErrForm)
	checkReadEvents(t, joined(Uint(4096), form), api.ErrForm)
	checkReadEvents(t, joined(Uint(4096), form[:8192]), api.OK)
	checkReadEvents(t, joined(Uint(4096), form[:8191]), api.ErrShort)
	for _, count := range []uint64{4097, 4098, 1 << 16, 1 << 32, 1<<32 + 1, 1 << 63, math.MaxUint64} {
		checkReadEvents(t, Uint(count), api.ErrForm)
	}
	checkReadEvents(t, Uint(4096), api.ErrShort)
}

// greatest is sixteen events whose form has so many bytes, from 62000 to 65540.
func greatest(size int) []api.Event {
	const each = 4093
	l := slices.Repeat(listed(keys(filled(each)...)), 16)
	more := size - (1 + 16*(1+2+each))
	l[15] = paste(filled(each + more)...)
	return l
}

// P7.3: forms of just 65536 bytes and of one more, for writing and for reading.
func TestGreatForms(t *testing.T) {
	for _, size := range []int{65500, 65535, 65536} {
		form := checkWriteEvents(t, greatest(size), api.OK)
		if len(form) != size {
			t.Fatalf("the form has %d bytes, want %d", len(form), size)
		}
		checkReadEvents(t, form, api.OK)
	}
	checkWriteEvents(t, greatest(65537), api.ErrLimit)
	checkWriteEvents(t, greatest(65538), api.ErrLimit)
	checkWriteEvents(t, append(greatest(65536), arrow('A')), api.ErrLimit)
	checkWriteEvents(t, append(greatest(65537), arrow('E')), api.ErrArg)
	checkWriteEvents(t, slices.Repeat(listed(paste(filled(4096)...)), 4096), api.ErrLimit)
	checkWriteEvents(t, slices.Repeat(listed(paste(filled(4096)...)), 4097), api.ErrLimit)

	form, _ := slowWriteEvents(greatest(65536))
	checkReadEvents(t, append(form, 0), api.ErrLimit)
	checkReadEvents(t, append(form[:len(form)-1:len(form)-1], 0), api.OK)
	checkReadEvents(t, make([]byte, 65536), api.ErrForm)
	checkReadEvents(t, make([]byte, 65537), api.ErrLimit)
	checkReadEvents(t, bytes.Repeat([]byte{128, 0}, 40000), api.ErrLimit)
	checkReadEvents(t, slices.Repeat([]byte{255}, 65536), api.ErrForm)
}

// P7.3: forms that end at each byte, and with something behind.
func TestEventsShort(t *testing.T) {
	l := listed(arrow('A'), resize(200, 300), keys(filled(130)...), paste(), resize(1, 512), paste(filled(129)...), keys(7), arrow('D'))
	form := checkWriteEvents(t, l, api.OK)
	for cut := range form {
		checkReadEvents(t, form[:cut], api.ErrShort)
	}
	checkReadEvents(t, nil, api.ErrShort)
	checkReadEvents(t, form, api.OK)
	for _, behind := range [][]byte{{0}, {4}, {4, 'A'}, {5}, {128}} {
		checkReadEvents(t, joined(form, behind), api.ErrForm)
	}
}

// P7.3: a byte that is no Kind, an event that may not be, a number that is none's form: wherever it stands, and whatever is there behind it.
func TestEventsWrong(t *testing.T) {
	great := [][]byte{Uint(4097), Uint(65536), Uint(1 << 32), Uint(1<<32 + 1), Uint(1 << 63), Uint(math.MaxUint64)}
	var wrong [][]byte
	for kind := range 256 {
		if kind == 0 || kind > 4 {
			wrong = append(wrong, []byte{byte(kind)})
		}
	}
	for _, none := range [][]byte{{128, 0}, {255, 128, 0}, joined(bytes.Repeat([]byte{128}, 9), []byte{2}), bytes.Repeat([]byte{255}, 10)} {
		wrong = append(wrong, joined([]byte{1}, none), joined([]byte{3}, none), joined([]byte{2}, none), joined([]byte{2, 5}, none), joined([]byte{2, 0}, none))
	}
	wrong = append(wrong, []byte{1, 0})
	for _, n := range great {
		wrong = append(wrong, joined([]byte{1}, n), joined([]byte{3}, n))
	}
	for _, n := range [][]byte{{0}, Uint(513), Uint(65537), Uint(1 << 32), Uint(1<<32 + 1), Uint(1 << 63), Uint(math.MaxUint64), Uint(1<<63 + 5)} {
		wrong = append(wrong, joined([]byte{2}, n, []byte{5}), joined([]byte{2, 5}, n), joined([]byte{2}, n, n))
	}
	for a := range 256 {
		if a < 'A' || a > 'D' {
			wrong = append(wrong, []byte{4, byte(a)})
		}
	}
	for _, w := range wrong {
		checkReadEvents(t, joined([]byte{1}, w), api.ErrForm)
		checkReadEvents(t, joined([]byte{3, 4, 'A'}, w), api.ErrForm)
		checkReadEvents(t, joined([]byte{3, 4, 'A'}, w, []byte{128}), api.ErrForm)
		checkReadEvents(t, joined([]byte{3, 4, 'A'}, w, filled(300)), api.ErrForm)
		checkReadEvents(t, joined([]byte{3, 4, 'A'}, w[:len(w)-1]), api.ErrShort)
	}
}

// P7.3: columns that may not be are told behind both numbers alone.
func TestResizeBothNumbers(t *testing.T) {
	for _, cols := range [][]byte{{0}, Uint(513), Uint(math.MaxUint64)} {
		checkReadEvents(t, joined([]byte{1, 2}, cols), api.ErrShort)
		checkReadEvents(t, joined([]byte{1, 2}, cols, []byte{128}), api.ErrShort)
		checkReadEvents(t, joined([]byte{1, 2}, cols, []byte{1}), api.ErrForm)
	}
	for _, n := range []uint64{1, 2, 127, 128, 511, 512} {
		checkReadEvents(t, joined([]byte{1, 2}, Uint(n), Uint(n)), api.OK)
		checkReadEvents(t, joined([]byte{1, 2, 1}, Uint(n)), api.OK)
	}
}

// P7.3: as many bytes as an event may have.
func TestEventBytes(t *testing.T) {
	for _, kind := range []byte{1, 3} {
		for _, size := range []int{1, 2, 127, 128, 4095, 4096} {
			form := joined([]byte{1, kind}, Uint(uint64(size)), filled(size))
			checkReadEvents(t, form, api.OK)
			checkReadEvents(t, form[:len(form)-1], api.ErrShort)
			checkReadEvents(t, append(form, 0), api.ErrForm)
		}
		checkReadEvents(t, joined([]byte{1, kind}, Uint(4097), filled(4097)), api.ErrForm)
	}
	checkReadEvents(t, []byte{1, 3, 0}, api.OK)
	checkReadEvents(t, []byte{1, 1, 0}, api.ErrForm)
}

// P7.3, P7.4: all short forms of telling bytes, as the words say.
func TestEventsAll(t *testing.T) {
	counts := map[api.Errno]int{}
	eachForm([]byte{0, 1, 2, 3, 4, 5, 'A', 'E', 128, 255}, 6, func(b []byte) {
		want, e := slowReadEvents(b)
		l, got := ReadEvents(b)
		if !sameEvents(l, want) || got != e {
			t.Fatalf("ReadEvents(%x) = %v, %v, want %v, %v", b, l, got, want, e)
		}
		if out, written := WriteEvents(l...); e == api.OK && (!bytes.Equal(out, b) || written != api.OK) {
			t.Fatalf("what was read of %x is written as %x, %v", b, out, written)
		}
		counts[e]++
	})
	if counts[api.OK] < 100 || counts[api.ErrShort] < 100 || counts[api.ErrForm] < 100 {
		t.Fatalf("the forms are all alike: %v", counts)
	}
}

// P7.4: lists of all kinds are read as they were written, and forms with one byte changed are one thing or one error.
func TestEventsOneForm(t *testing.T) {
	var l []api.Event
	for _, x := range mayCases()[true] {
		if len(x.Bytes) < 4095 {
			l = append(l, x)
		}
	}
	for from := range l {
		checkReadEvents(t, checkWriteEvents(t, l[from:], api.OK), api.OK)
	}
	form := checkWriteEvents(t, listed(resize(200, 24), keys(1, 2, 3), paste(filled(130)...), arrow('C')), api.OK)
	for place := range form {
		for c := range 256 {
			changed := slices.Clone(form)
			changed[place] = byte(c)
			_, e := slowReadEvents(changed)
			checkReadEvents(t, changed, e)
		}
	}
}

// P7.4: instructions with one byte changed are one thing or one error.
func TestInstructionOneForm(t *testing.T) {
	form, _ := Write(api.Instruction{Old: 1, New: 300, Ack: math.MaxUint64, Throw: 128, Diff: filled(140)})
	for place := range form {
		for c := range 256 {
			changed := slices.Clone(form)
			changed[place] = byte(c)
			_, e := slowRead(changed)
			checkRead(t, changed, e)
		}
	}
}

func BenchmarkWriteEvents(b *testing.B) {
	l := greatest(65536)
	for b.Loop() {
		WriteEvents(l...)
	}
}

func BenchmarkReadEvents(b *testing.B) {
	form, _ := WriteEvents(slices.Repeat(listed(arrow('A')), 4096)...)
	for b.Loop() {
		ReadEvents(form)
	}
}
