package link

import (
	"bytes"
	"compress/flate"
	"slices"
	"testing"

	"wayfarer/api"
	"wayfarer/fragment"
	"wayfarer/inflate"
	"wayfarer/wire"
)

// longStream is a stream, by the library, that tells so many noughts.
func longStream(t testing.TB, count int) []byte {
	t.Helper()
	var b bytes.Buffer
	w, err := flate.NewWriter(&b, 9)
	if err != nil {
		t.Fatal(err)
	}
	w.Write(make([]byte, count))
	w.Close()
	return b.Bytes()
}

// P24.2: what the seal refuses changes nothing but Counts, in the order of its errors.
func TestTakeSeal(t *testing.T) {
	c, s := linksOf(t)
	x := instruction(1, []byte("x"))
	first, second := one(t, c, x, 5), one(t, c, x, 6)
	checkTake(t, s, second, 9, x)
	checkRefused := func(b []byte, want api.Errno) {
		t.Helper()
		checkNone(t, s, b, 500, want)
		checkTimes(t, api.Server, one(t, s, x, 10), 10, 7)
	}
	checkRefused(first, api.ErrOld)
	checkRefused(second, api.ErrOld)
	checkRefused(told(t, 0, nil), api.ErrOld) // and no part either
	checkRefused(nil, api.ErrShort)
	checkRefused(second[:27], api.ErrShort)
	checkRefused(second[:len(second)-1], api.ErrTag)
	checkRefused(append(slices.Clone(second), 0), api.ErrTag)
	checkRefused(make([]byte, 65028), api.ErrTag)
	checkRefused(make([]byte, 65029), api.ErrForm)
	checkRefused(slices.Repeat([]byte{127}, 28), api.ErrForm)
	checkRefused(slices.Repeat([]byte{255}, 28), api.ErrSide)
	for i := range second {
		b := slices.Clone(second)
		b[i] ^= 1
		want := api.ErrTag
		if i == 0 {
			b[i] ^= 1 ^ 128
			want = api.ErrSide
		}
		checkRefused(b, want)
	}
	checkCounts(t, s, uint64(11+len(second)), 1, 3, 8+len(second))
	checkRtt(t, s)
	checkTake(t, s, one(t, c, x, 7), 11, x)
}

// P24.2: each error of a datagram that the seal takes: of its part, of the stream, of the instruction; of what comes together the first one.
func TestTakeErrors(t *testing.T) {
	x := instruction(5, []byte("abc"))
	stream := smaller(t, formed(t, x))
	last := func(b []byte) []byte { return part(t, 0, 0, true, b) }
	for name, c := range map[string]struct {
		bytes []byte
		want  api.Errno
	}{
		"good":                              {last(stream), api.OK},
		"no number":                         {nil, api.ErrShort},
		"half a number":                     {[]byte{128}, api.ErrShort},
		"one number":                        {[]byte{0}, api.ErrShort},
		"a number too long":                 {[]byte{128, 0, 1}, api.ErrForm},
		"no bytes of one that is not last":  {[]byte{0, 0}, api.ErrForm},
		"one part too many":                 {append([]byte{0, 129, 4}, stream...), api.ErrForm},
		"a part too long":                   {append([]byte{0, 1}, make([]byte, 1025)...), api.ErrForm},
		"no stream":                         {last(nil), api.ErrShort},
		"a stream that ends early":          {last(stream[:len(stream)-1]), api.ErrShort},
		"a block of another kind":           {last([]byte{7}), api.ErrForm},
		"a stored block with a wrong count": {last([]byte{1, 1, 0, 255, 255, 0}), api.ErrForm},
		"a stream too long":                 {last(longStream(t, 65537)), api.ErrLimit},
		"one too long, and bytes behind":    {last(append(longStream(t, 70000), 0)), api.ErrLimit},
		"one that ends early, and is long":  {last(longStream(t, 65536)[:20]), api.ErrShort},
		"bytes behind":                      {last(append(slices.Clone(stream), 0)), api.ErrForm},
		"bytes behind a bad instruction":    {last(append(smaller(t, []byte{1, 2}), 0)), api.ErrForm},
		"no instruction":                    {last(smaller(t, nil)), api.ErrShort},
		"half an instruction":               {last(smaller(t, []byte{1, 2})), api.ErrShort},
		"an instruction and more":           {last(smaller(t, append(formed(t, x), 0))), api.ErrForm},
		"a number of another form":          {last(smaller(t, []byte{128, 0, 0, 0, 0, 0})), api.ErrForm},
		"a difference too long":             {last(smaller(t, []byte{0, 0, 0, 0, 129, 128, 4})), api.ErrForm},
		"65536 noughts":                     {last(longStream(t, 65536)), api.ErrForm},
	} {
		s := linkOf(t, api.Server, 0)
		if c.want == api.OK {
			checkTake(t, s, told(t, 0, c.bytes), 9, x)
		} else {
			t.Log(name)
			checkNone(t, s, told(t, 0, c.bytes), 9, c.want)
		}
		checkCounts(t, s, 0, 1, 0, 0)
	}
}

// P24.2: these errors are those of the layers below, whatever the bytes are.
func TestTakeErrorsBelow(t *testing.T) {
	n := noise(2410)
	s := linkOf(t, api.Server, 0)
	for i := range uint64(3000) {
		b := n.wild(n.below(8))
		if n.below(2) == 0 {
			stream := smaller(t, n.wild(n.below(7)))
			b = part(t, i, 0, true, stream)
		}
		p, want := fragment.Read(b)
		if want == api.OK && p.Id != i {
			continue // of an instruction that is over, or the greatest for long
		}
		if want == api.OK && p.N == 0 && p.Last {
			var form []byte
			if form, _, want = inflate.Inflate(p.Bytes, api.MaxBytes); want == api.OK {
				_, want = wire.Read(form)
			}
		}
		if _, done, e := s.Take(told(t, i, b), 9); e != want || done && e != api.OK {
			t.Errorf("Take of %x = %t, %d, want %d", b, done, e, want)
		}
	}
}

// P24.2: behind each of these errors the datagram is taken: its Echo is a sample, its Sent is told, its number is old.
func TestTakeKeeps(t *testing.T) {
	stream := smaller(t, formed(t, api.Instruction{}))
	s := linkOf(t, api.Server, 0)
	var samples []int
	for i, c := range []struct {
		bytes []byte
		want  api.Errno
	}{
		{nil, api.ErrShort}, {[]byte{0, 0}, api.ErrForm}, {part(t, 0, 0, true, nil), api.ErrShort}, {part(t, 1, 0, true, append(stream, 0)), api.ErrForm},
		{part(t, 2, 0, true, longStream(t, 65537)), api.ErrLimit}, {part(t, 3, 0, true, smaller(t, []byte{1})), api.ErrShort},
	} {
		d := api.Datagram{Seq: uint64(3 * i), Sent: uint16(1000 * i), Echo: uint16(900 * i), Bytes: c.bytes}
		checkNone(t, s, sealing(t, api.Client, d), uint64(901*i+7), c.want)
		samples = append(samples, i+7)
		checkRtt(t, s, samples...)
		checkCounts(t, s, uint64(i), i+1, 2*i, 0)
		d.Bytes, d.Echo = part(t, 9, 0, true, stream), 3
		checkNone(t, s, sealing(t, api.Client, d), 5, api.ErrOld)
		d.Seq = 0
		checkNone(t, s, sealing(t, api.Client, d), 5, api.ErrOld)
		checkTimes(t, api.Server, one(t, s, api.Instruction{}, uint64(901*i+17)), uint16(901*i+17), d.Sent+10)
	}
}

// P24.2: a part that can't be read leaves the parts of an instruction that waits; a stream that is broken is the end of its instruction alone.
func TestTakeGoesOn(t *testing.T) {
	x, y := ofStream(t, 1500), instruction(3, []byte("y"))
	stream, next := smaller(t, formed(t, x)), smaller(t, formed(t, y))
	s := linkOf(t, api.Server, 0)
	checkNone(t, s, told(t, 0, part(t, 4, 0, false, stream[:1000])), 5, api.OK)
	checkNone(t, s, told(t, 1, []byte{5, 0}), 5, api.ErrForm)
	checkNone(t, s, told(t, 2, part(t, 3, 0, true, next)), 5, api.OK) // of an earlier instruction
	checkTake(t, s, told(t, 3, part(t, 4, 1, true, stream[1000:])), 5, x)
	checkNone(t, s, told(t, 4, part(t, 5, 1, true, stream[1000:])), 5, api.OK)
	checkNone(t, s, told(t, 5, part(t, 5, 0, false, stream[:900])), 5, api.ErrShort)
	checkNone(t, s, told(t, 6, part(t, 5, 0, false, stream[:1000])), 5, api.OK)
	checkNone(t, s, told(t, 7, part(t, 5, 0, true, next)), 5, api.OK)
	checkTake(t, s, told(t, 8, part(t, 6, 0, true, next)), 5, y)
	checkNone(t, s, told(t, 9, part(t, 6, 0, true, next)), 5, api.OK) // once, also under another number
	checkCounts(t, s, 0, 10, 0, 0)
}

// P24.2: an Echo of 65535 is no sample, nor one of 5000 milliseconds and more; one of 0 and of 4999 is.
func TestSamples(t *testing.T) {
	for _, c := range []struct {
		echo   uint16
		now    uint64
		sample int // -1: none
	}{
		{0, 0, 0}, {0, 1, 1}, {0, 4999, 4999}, {0, 5000, -1}, {0, 5001, -1}, {0, 65535, -1}, {0, 65536, 0}, {0, 65536*7 + 4999, 4999}, {0, 65536*7 + 5000, -1},
		{1, 0, -1}, {7, 6, -1}, {65534, 65534, 0}, {65534, 65535, 1}, {65534, 0, 2}, {65534, 3, 5}, {65534, 4997, 4999}, {65534, 4998, -1}, {65534, 65533, -1},
		{65535, 0, -1}, {65535, 1, -1}, {65535, 65535, -1}, {65535, 65534, -1}, {65535, 4000, -1},
		{9, 1<<64 - 1, -1}, {65000, 1<<64 - 1, 535}, {60536, 1<<64 - 1, 4999}, {60535, 1<<64 - 1, -1}, {3, 1<<63 + 5, 2},
	} {
		s := linkOf(t, api.Server, 0)
		b := part(t, 0, 0, true, smaller(t, formed(t, api.Instruction{})))
		checkTake(t, s, sealing(t, api.Client, api.Datagram{Echo: c.echo, Bytes: b}), c.now, api.Instruction{})
		if c.sample < 0 {
			checkRtt(t, s)
		} else {
			checkRtt(t, s, c.sample)
		}
	}
}

// P24.2, P24.3: samples one behind the other, of each part too; those that are none change nothing.
func TestSamplesInARow(t *testing.T) {
	s := linkOf(t, api.Server, 0)
	var samples []int
	for i, ms := range []int{100, 60, 0, 4999, 5000, 65535, 30, 1, 65534, 4998, 0, 0} {
		d := api.Datagram{Seq: uint64(i), Echo: uint16(7*i + 3), Bytes: part(t, 1, i, false, []byte("x"))}
		checkNone(t, s, sealing(t, api.Client, d), uint64(7*i+3+ms), api.OK)
		if ms < 5000 {
			samples = append(samples, ms)
		}
		checkRtt(t, s, samples...)
		d.Seq, d.Echo = 0, 5
		checkNone(t, s, sealing(t, api.Client, d), 5, api.ErrOld)
		d.Seq, d.Bytes = 100, append(d.Bytes, 0)
		b := sealing(t, api.Client, d)
		b[20] ^= 1
		checkNone(t, s, b, 5, api.ErrTag)
		checkRtt(t, s, samples...)
	}
	checkCounts(t, s, 0, 12, 12, 12)
}

// P24.2: the sample is of the way alone: how long the other side waited is told by Echo.
func TestSampleOfWay(t *testing.T) {
	for _, wait := range []uint64{0, 1, 500, 1000, 1001} {
		c, s := linksOf(t)
		at := uint64(65536*3 - 40)
		checkTake(t, s, one(t, c, api.Instruction{}, at), 70, api.Instruction{})
		checkTake(t, c, one(t, s, api.Instruction{}, 70+wait), at+wait+90, api.Instruction{})
		if wait > 1000 {
			checkRtt(t, c)
		} else {
			checkRtt(t, c, 90)
		}
		checkRtt(t, s)
	}
}

// P24.2: parts that come in another order than they were sent in: those behind a later one are old, so the instruction does not come.
func TestTakeTurnedAbout(t *testing.T) {
	x, y := ofStream(t, 2500), instruction(9, []byte("y"))
	c, s := linksOf(t)
	row := sent(t, c, x, 5)
	checkNone(t, s, row[0], 6, api.OK)
	checkNone(t, s, row[2], 6, api.OK)
	checkNone(t, s, row[1], 6, api.ErrOld)
	checkTake(t, s, one(t, c, y, 7), 8, y)
	checkCounts(t, s, 0, 3, 1, 0)
	// Sealed in another order they come together.
	stream := smaller(t, formed(t, x))
	checkNone(t, s, told(t, 10, part(t, 10, 2, true, stream[2000:])), 9, api.OK)
	checkNone(t, s, told(t, 11, part(t, 10, 0, false, stream[:1000])), 9, api.OK)
	checkNone(t, s, told(t, 12, part(t, 10, 2, true, stream[2000:])), 9, api.OK)
	checkTake(t, s, told(t, 13, part(t, 10, 1, false, stream[1000:2000])), 9, x)
	checkNone(t, s, told(t, 14, part(t, 10, 1, false, stream[1000:2000])), 9, api.OK)
}

// P24.2: a part that was lost: its instruction does not come, the next one does.
func TestTakeLost(t *testing.T) {
	x, y := ofStream(t, 3500), ofStream(t, 1500)
	for lost := range 4 {
		c, s := linksOf(t)
		for i, b := range sent(t, c, x, 5) {
			if i != lost {
				checkNone(t, s, b, 6, api.OK)
			}
		}
		row := sent(t, c, y, 7)
		checkNone(t, s, row[0], 8, api.OK)
		checkTake(t, s, row[1], 8, y)
	}
}

// P24.2: parts of several instructions mixed: only the greatest Id counts.
func TestTakeMixed(t *testing.T) {
	x, y := ofStream(t, 1200), ofStream(t, 1300)
	a, b := smaller(t, formed(t, x)), smaller(t, formed(t, y))
	s := linkOf(t, api.Server, 0)
	checkNone(t, s, told(t, 0, part(t, 1, 0, false, a[:1000])), 6, api.OK)
	checkNone(t, s, told(t, 1, part(t, 2, 0, false, b[:1000])), 6, api.OK)
	checkNone(t, s, told(t, 2, part(t, 1, 1, true, a[1000:])), 6, api.OK)
	checkTake(t, s, told(t, 3, part(t, 2, 1, true, b[1000:])), 6, y)
	checkNone(t, s, told(t, 4, append([]byte{1, 1}, a...)), 6, api.ErrForm) // too long a part
	checkNone(t, s, told(t, 5, part(t, 1, 0, false, a[:1000])), 6, api.OK)
	checkNone(t, s, told(t, 6, part(t, 1, 1, true, a[1000:])), 6, api.OK)
	checkNone(t, s, told(t, 7, part(t, 1<<64-1, 1, true, a[1000:])), 6, api.OK)
	checkTake(t, s, told(t, 8, part(t, 1<<64-1, 0, false, a[:1000])), 6, x)
	checkNone(t, s, told(t, 9, part(t, 3, 0, true, smaller(t, formed(t, instruction(1, nil))))), 6, api.OK)
	checkCounts(t, s, 0, 10, 0, 0)
}
