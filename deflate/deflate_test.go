package deflate

import (
	"bytes"
	"compress/flate"
	"io"
	"math"
	"slices"
	"strings"
	"testing"

	"wayfarer/api"
	"wayfarer/huff"
	"wayfarer/inflate"
)

func lit(b byte) api.Token                 { return api.Token{Byte: b} }
func piece(length, distance int) api.Token { return api.Token{Length: length, Distance: distance} }

// lits is bytes as tokens, each for itself.
func lits(b []byte) []api.Token {
	var l []api.Token
	for _, c := range b {
		l = append(l, lit(c))
	}
	return l
}

// roomy is a list with room behind its end, which is filled.
func roomy[T any](l []T, fill T) []T {
	room := append(slices.Clone(l), fill, fill, fill, fill)
	return room[:len(l)]
}

// spoil turns all bytes of an answer about, those in the room behind its end too.
func spoil(b []byte) {
	for i := range b[:cap(b)] {
		b[:cap(b)][i] ^= 255
	}
}

// checkExpand holds Expand to an answer, and what it was handed to staying as it is.
func checkExpand(t *testing.T, l []api.Token, want []byte, e api.Errno) {
	t.Helper()
	handed := roomy(l, api.Token{Byte: 1, Length: 2, Distance: 3})
	whole := slices.Clone(handed[:cap(handed)])
	out, got := Expand(handed...)
	if !bytes.Equal(out, want) || got != e {
		t.Fatalf("Expand(%d tokens) = %.20d (%d bytes), %v, want %.20d (%d bytes), %v", len(l), out, len(out), got, want, len(want), e)
	}
	again, _ := Expand(handed...)
	spoil(out)
	if !bytes.Equal(again, want) {
		t.Fatal("two answers of Expand share memory")
	}
	if !slices.Equal(handed[:cap(handed)], whole) {
		t.Fatal("Expand changed what it was handed")
	}
}

// checkBytes calls a function of bytes twice, holds it to one answer, and what it was handed to staying as it is.
func checkBytes(t *testing.T, name string, f func([]byte) ([]byte, api.Errno), b []byte) ([]byte, api.Errno) {
	t.Helper()
	handed := roomy(b, 0x5a)
	whole := slices.Clone(handed[:cap(handed)])
	out, e := f(handed)
	again, f2 := f(slices.Clone(b))
	if !bytes.Equal(out, again) || e != f2 {
		t.Fatalf("%s of %d bytes has two answers", name, len(b))
	}
	once, _ := f(handed)
	spoil(once)
	if !bytes.Equal(out, again) {
		t.Fatalf("two answers of %s share memory", name)
	}
	if !bytes.Equal(handed[:cap(handed)], whole) {
		t.Fatalf("%s of %d bytes changed what it was handed, or answers it", name, len(b))
	}
	return out, e
}

// checkMatch holds Match of bytes to tokens that tell them, always the same ones.
func checkMatch(t *testing.T, b []byte) []api.Token {
	t.Helper()
	handed := roomy(b, 0x5a)
	whole := slices.Clone(handed[:cap(handed)])
	l, e := Match(handed)
	if e != api.OK || !bytes.Equal(handed[:cap(handed)], whole) {
		t.Fatalf("Match of %d bytes: %v, or changed them", len(b), e)
	}
	again, _ := Match(slices.Clone(b))
	if !slices.Equal(l, again) {
		t.Fatalf("Match of %d bytes has two answers", len(b))
	}
	if told, e := slowExpand(l); !bytes.Equal(told, b) || e != api.OK {
		t.Fatalf("Match of %d bytes tells others: %d of them, %v", len(b), len(told), e)
	}
	checkExpand(t, l, b, api.OK)
	once, _ := Match(handed)
	for i := range once {
		once[i] = api.Token{}
	}
	if !slices.Equal(l, again) {
		t.Fatal("two answers of Match share memory")
	}
	return l
}

// checkStream holds a stream to bringing bytes back, whole, for us and for another reader.
func checkStream(t *testing.T, stream, b []byte) {
	t.Helper()
	for _, behind := range []string{"", "\x00", "\xff\xff\xff", "behind"} {
		out, used, e := inflate.Inflate(append(slices.Clone(stream), behind...), len(b))
		if !bytes.Equal(out, b) || used != len(stream) || e != api.OK {
			t.Fatalf("Inflate of a stream of %d bytes: %d bytes of %d, %d used, %v", len(stream), len(out), len(b), used, e)
		}
	}
	r := bytes.NewReader(stream)
	if out, err := io.ReadAll(flate.NewReader(r)); !bytes.Equal(out, b) || err != nil || r.Len() != 0 {
		t.Fatalf("the library's reader: %d bytes of %d, %v, %d left", len(out), len(b), err, r.Len())
	}
}

// checkDeflate holds Deflate of bytes to a stream that brings them back and is no longer than the stored one.
func checkDeflate(t *testing.T, b []byte) []byte {
	t.Helper()
	checkMatch(t, b)
	stream, e := checkBytes(t, "Deflate", Deflate, b)
	if stored, _ := slowStored(b); e != api.OK || len(stream) > len(stored) {
		t.Fatalf("Deflate of %d bytes has %d, where %d are enough, %v", len(b), len(stream), len(stored), e)
	}
	checkStream(t, stream, b)
	return stream
}

// P6.1 and P6.2: the examples of the chapter.
func TestExamples(t *testing.T) {
	checkExpand(t, []api.Token{lit(97), piece(4, 1)}, []byte{97, 97, 97, 97, 97}, api.OK)
	checkExpand(t, []api.Token{piece(3, 1)}, nil, api.ErrArg)
	checkExpand(t, nil, nil, api.OK)
	checkExpand(t, []api.Token{}, nil, api.OK)
	if out, e := Expand(); len(out) != 0 || e != api.OK {
		t.Errorf("Expand() = %d, %v", out, e)
	}
	if out, e := Stored([]byte{7}); !bytes.Equal(out, []byte{1, 1, 0, 254, 255, 7}) || e != api.OK {
		t.Errorf("Stored(7) = %d, %v", out, e)
	}
	checkDeflate(t, []byte{7})
}

// tell is few tokens that tell so many bytes.
func tell(told int) []api.Token {
	l := lits(scrambled(min(told, 300), 256, uint64(told)))
	for told -= len(l); told > 0; {
		length := min(told, 258)
		if length < 3 {
			l, told = append(l, lit(byte(told))), told-1
			continue
		}
		l, told = append(l, piece(length, 300)), told-length
	}
	return l
}

// P6.1: tokens at each edge of what may be, behind no bytes, few and many.
func TestEdgesOfTokens(t *testing.T) {
	for _, told := range []int{0, 1, 2, 3, 10, 257, 258, 259, 32767, 32768, 32769, 40000} {
		ahead := tell(told)
		for _, length := range []int{math.MinInt, -258, -3, -1, 0, 1, 2, 3, 4, 257, 258, 259, 260, 65536, math.MaxInt} {
			for _, distance := range []int{math.MinInt, -1, 0, 1, 2, told - 1, told, told + 1, 32767, 32768, 32769, 65536, math.MaxInt} {
				for _, b := range []byte{0, 1, 255} {
					l := append(slices.Clone(ahead), api.Token{Byte: b, Length: length, Distance: distance})
					want, e := slowExpand(l)
					checkExpand(t, l, want, e)
				}
			}
		}
	}
}

// P6.1: what the edges are, told one by one and not by another reading.
func TestTokensThatMayBe(t *testing.T) {
	ahead := []byte{1, 2}
	for _, c := range []struct {
		token api.Token
		want  []byte
	}{
		{lit(0), []byte{0}},
		{lit(255), []byte{255}},
		{piece(3, 1), []byte{2, 2, 2}},
		{piece(3, 2), []byte{1, 2, 1}},
		{piece(258, 1), bytes.Repeat([]byte{2}, 258)},
		{piece(258, 2), bytes.Repeat([]byte{1, 2}, 129)},
	} {
		checkExpand(t, append(lits(ahead), c.token), append(slices.Clone(ahead), c.want...), api.OK)
	}
	for _, token := range []api.Token{
		piece(2, 1), piece(1, 1), piece(259, 1), piece(3, 0), piece(3, 3), piece(3, -1), piece(0, 1), piece(0, -1),
		piece(-1, 1), piece(-3, 1), piece(-1, 0), piece(-1, -1), {Byte: 1, Length: 3, Distance: 1}, {Byte: 1, Distance: 1},
	} {
		checkExpand(t, append(lits(ahead), token), nil, api.ErrArg)
		checkExpand(t, append(append(lits(ahead), token), lit(1)), nil, api.ErrArg)
	}
	// As far back as may be, with as many bytes and with more.
	long := scrambled(40000, 256, 5)
	checkExpand(t, append(lits(long[:32768]), piece(3, 32768)), append(slices.Clone(long[:32768]), long[:3]...), api.OK)
	checkExpand(t, append(lits(long), piece(3, 32768)), append(slices.Clone(long), long[40000-32768:][:3]...), api.OK)
	checkExpand(t, append(lits(long), piece(3, 32769)), nil, api.ErrArg)
	checkExpand(t, append(lits(long[:32767]), piece(3, 32768)), nil, api.ErrArg)
}

// P6.1: tokens that tell just as many bytes as may be, and one more, by a byte and within a piece; of a limit and a token that may not be the first that is met.
func TestExpandLimit(t *testing.T) {
	// 1 and 254 times 258 are 65533 bytes.
	begin := append([]api.Token{lit(9)}, slices.Repeat([]api.Token{piece(258, 1)}, 254)...)
	full := bytes.Repeat([]byte{9}, 65536)
	with := func(more ...api.Token) []api.Token { return append(slices.Clone(begin), more...) }
	wrong := piece(2, 1)
	checkExpand(t, with(), full[:65533], api.OK)
	checkExpand(t, with(lit(9), lit(9), lit(9)), full, api.OK)
	checkExpand(t, with(piece(3, 1)), full, api.OK)
	checkExpand(t, with(piece(3, 32768)), full, api.OK)
	checkExpand(t, with(lit(9), lit(9), lit(9), lit(9)), nil, api.ErrLimit)
	checkExpand(t, with(piece(3, 1), lit(9)), nil, api.ErrLimit)
	checkExpand(t, with(piece(3, 1), piece(3, 1)), nil, api.ErrLimit)
	for length := 4; length <= 258; length++ {
		checkExpand(t, with(piece(length, 1)), nil, api.ErrLimit)
	}
	checkExpand(t, with(piece(4, 1), wrong), nil, api.ErrLimit)
	checkExpand(t, with(piece(3, 1), lit(9), wrong), nil, api.ErrLimit)
	checkExpand(t, with(wrong, piece(258, 1)), nil, api.ErrArg)
	checkExpand(t, with(piece(3, 1), wrong), nil, api.ErrArg)
	checkExpand(t, with(piece(3, 1), wrong, lit(9)), nil, api.ErrArg)
	// A token that may not be is that, whatever it would tell.
	checkExpand(t, with(piece(3, 1), piece(3, 32769)), nil, api.ErrArg)
	checkExpand(t, with(piece(259, 1)), nil, api.ErrArg)
	checkExpand(t, with(piece(math.MaxInt, 1)), nil, api.ErrArg)
	checkExpand(t, append([]api.Token{wrong}, begin...), nil, api.ErrArg)
	checkExpand(t, lits(full), full, api.OK)
	checkExpand(t, append(lits(full), lit(9)), nil, api.ErrLimit)
	checkExpand(t, slices.Repeat([]api.Token{lit(9)}, 200000), nil, api.ErrLimit)
}

// P6.1: lists of tokens by chance, most of which may be.
func TestExpandByChance(t *testing.T) {
	dice := scrambled(60000, 256, 11)
	for len(dice) > 200 {
		var l []api.Token
		told := 0
		for range int(dice[0])%12 + 1 {
			x := lit(dice[1])
			if dice[2] < 150 {
				x = piece(int(dice[3])+int(dice[4])%5, (int(dice[5])<<8|int(dice[6]))%(told+1+int(dice[7])%2))
			}
			told += max(1, x.Length)
			l = append(l, x)
			dice = dice[8:]
		}
		want, e := slowExpand(l)
		checkExpand(t, l, want, e)
	}
}

// P6.1: stored streams of no bytes, of one block just full, of two, and of too many.
func TestStored(t *testing.T) {
	plain := scrambled(65540, 256, 3)
	for _, n := range []int{0, 1, 2, 255, 256, 257, 4096, 65534, 65535, 65536} {
		got, e := checkBytes(t, "Stored", Stored, plain[:n])
		want, _ := slowStored(plain[:n])
		if !bytes.Equal(got, want) || e != api.OK {
			t.Errorf("Stored of %d bytes has %d, want %d, %v", n, len(got), len(want), e)
		}
		checkStream(t, got, plain[:n])
	}
	if got, e := Stored(nil); !bytes.Equal(got, []byte{1, 0, 0, 255, 255}) || e != api.OK {
		t.Errorf("Stored(nil) = %d, %v", got, e)
	}
	if got, _ := Stored(plain[:65535]); len(got) != 65540 || !bytes.Equal(got[:5], []byte{1, 255, 255, 0, 0}) {
		t.Errorf("Stored of 65535 bytes begins with %d", got[:5])
	}
	got, _ := Stored(plain[:65536])
	if len(got) != 65546 || !bytes.Equal(got[:5], []byte{0, 255, 255, 0, 0}) || !bytes.Equal(got[65540:], []byte{1, 1, 0, 254, 255, plain[65535]}) {
		t.Errorf("Stored of 65536 bytes begins with %d, ends with %d", got[:5], got[65540:])
	}
}

// P6.1 and P6.2: more than 65536 bytes are too many, one as well as many.
func TestLimit(t *testing.T) {
	for _, n := range []int{65537, 65538, 100000, 1 << 20} {
		for _, b := range [][]byte{make([]byte, n), scrambled(n, 256, 1)} {
			if out, e := checkBytes(t, "Stored", Stored, b); len(out) != 0 || e != api.ErrLimit {
				t.Errorf("Stored of %d bytes: %d, %v", n, len(out), e)
			}
			if out, e := checkBytes(t, "Deflate", Deflate, b); len(out) != 0 || e != api.ErrLimit {
				t.Errorf("Deflate of %d bytes: %d, %v", n, len(out), e)
			}
			if out, e := Match(b); len(out) != 0 || e != api.ErrLimit {
				t.Errorf("Match of %d bytes: %d, %v", n, len(out), e)
			}
		}
	}
}

// P6.2: few bytes: none, each one, all of three letters up to six, and beginnings of a text.
func TestFewBytes(t *testing.T) {
	checkDeflate(t, nil)
	checkDeflate(t, []byte{})
	for c := range 256 {
		checkDeflate(t, []byte{byte(c)})
	}
	for n := 2; n <= 6; n++ {
		for word := range int(math.Pow(3, float64(n))) {
			b := make([]byte, n)
			for i := range b {
				b[i] = byte('a' + word%3)
				word /= 3
			}
			checkDeflate(t, b)
		}
	}
	text := []byte(strings.Repeat("what comes again comes again and again, ", 20))
	for n := range 300 {
		checkDeflate(t, text[:n])
	}
}

// P6.2: as many bytes as may be, and a few less: all the same, never again, by chance, of few letters.
func TestManyBytes(t *testing.T) {
	kinds := [][]byte{make([]byte, 65536), pairs(), scrambled(65536, 256, 7), scrambled(65536, 2, 8), scrambled(65536, 17, 9), bytes.Repeat(scrambled(300, 256, 10), 219)[:65536]}
	for _, b := range kinds {
		for _, n := range []int{257, 258, 259, 260, 1000, 20000, 65530, 65531, 65532, 65533, 65534, 65535, 65536} {
			checkDeflate(t, b[:n])
		}
	}
}

// P6.2: bytes of which no three come again have no piece, and are stored if nothing is shorter.
func TestNeverAgain(t *testing.T) {
	b := pairs()
	if l := checkMatch(t, b); !slices.Equal(l, lits(b)) {
		t.Error("Match found a piece where there is none")
	}
	for _, n := range []int{300, 40000, 65535} {
		checkDeflate(t, b[65536-n:])
	}
	stored, _ := slowStored(b)
	if stream := checkDeflate(t, b); !bytes.Equal(stream, stored) {
		t.Error("Deflate of bytes that never come again is not the stored stream")
	}
}

// P6.2: a piece that comes again just as far behind as may be told, and one farther.
func TestFarPieces(t *testing.T) {
	for _, length := range []int{3, 4, 5, 100, 258, 300} {
		for _, distance := range []int{300, 4096, 4097, 32767, 32768, 32769, 33000} {
			// The bytes between are none of those of the piece, and never come again.
			again := pairsOf(230, 256)[:length]
			b := slices.Concat(again, pairsOf(0, 230)[:distance-length], again)
			checkDeflate(t, b)
			l := checkMatch(t, b)
			found := slices.ContainsFunc(l, func(x api.Token) bool { return x.Distance == distance })
			if length > 3 && found != (distance <= 32768) {
				t.Errorf("a piece of %d that stood %d ahead: found %v", length, distance, found)
			}
		}
	}
}

// P6.2: pieces of each length, from each kind of distance, and those that reach into themselves.
func TestPieces(t *testing.T) {
	plain := scrambled(40000, 256, 21)
	for length := 1; length <= 520; length++ {
		checkDeflate(t, slices.Concat(plain[:length], []byte("-"), plain[:length]))
		checkDeflate(t, bytes.Repeat([]byte{byte(length)}, length))
	}
	for period := 1; period <= 40; period++ {
		checkDeflate(t, bytes.Repeat(plain[:period], 50))
	}
	for distance := 10; distance < 33000; distance = distance*5/4 + 1 {
		checkDeflate(t, slices.Concat(plain[:distance], plain[:10]))
	}
}

// P6.2: counts that want longer codes than there may be, and bytes of which some kinds are missing.
func TestUnevenBytes(t *testing.T) {
	var b []byte
	a, c := 1, 1
	for i := 0; len(b)+a <= 65536; i++ {
		b = append(b, bytes.Repeat([]byte{byte(i * 7)}, a)...)
		a, c = c, a+c
	}
	// Dealt out so that no piece comes of them.
	dealt := make([]byte, 0, len(b))
	for step := range 251 {
		for i := step; i < len(b); i += 251 {
			dealt = append(dealt, b[i])
		}
	}
	checkDeflate(t, b)
	checkDeflate(t, dealt)
	for gap := 1; gap <= 150; gap++ {
		var some []byte
		for i := range 40 {
			some = append(some, byte(i*gap), byte(i*i*gap))
		}
		checkDeflate(t, slices.Repeat(some, 4))
	}
}

// P6.2: bytes whose stream would be shorter than the stored one, but too long to be written at once.
func TestBetweenTheLimits(t *testing.T) {
	met := 0
	for spare := 80; spare < 130; spare += 3 {
		// The more of one byte, the shorter the stream.
		b := pairs()
		for i := range spare {
			b[i*31+17] = 7
		}
		tokens, _ := Match(b)
		if _, size := shortest(tokens, fixedWay(), ownWay(tokens)); size > 65536 && size <= 65546 {
			met++
			checkDeflate(t, b)
		}
	}
	if met == 0 {
		t.Error("no such bytes were met")
	}
}

// P6.3: 1000 and more bytes that are all the same become fewer than 100, whichever byte and however many.
func TestSameBytes(t *testing.T) {
	for c := range 256 {
		for _, n := range []int{1000, 1001, 65536} {
			b := bytes.Repeat([]byte{byte(c)}, n)
			stream, e := Deflate(b)
			if len(stream) >= 100 || e != api.OK {
				t.Errorf("%d times %d: %d bytes, %v", n, c, len(stream), e)
			}
			checkStream(t, stream, b)
		}
	}
	for n := 1000; n <= 65536; n += 1 + n/300 {
		if stream, e := Deflate(bytes.Repeat([]byte{200}, n)); len(stream) >= 100 || e != api.OK {
			t.Errorf("%d times 200: %d bytes, %v", n, len(stream), e)
		}
	}
	for n := 65279; n <= 65536; n++ {
		if stream, e := Deflate(bytes.Repeat([]byte{0}, n)); len(stream) >= 100 || e != api.OK {
			t.Errorf("%d times 0: %d bytes, %v", n, len(stream), e)
		}
	}
}

// P6.2: nothing is left of one call in the next one, whatever lay between.
func TestNothingIsKept(t *testing.T) {
	text := []byte(strings.Repeat("now and again, ", 100))
	first, _ := Deflate(text)
	tokens, _ := Match(text)
	for seed := range 20 {
		other := scrambled(500*seed, 4, uint64(seed))
		Deflate(other)
		Match(other)
		Stored(other)
		Expand(piece(3, 1))
		again, _ := Deflate(text)
		l, _ := Match(text)
		if !bytes.Equal(first, again) || !slices.Equal(tokens, l) {
			t.Fatalf("another answer behind another call")
		}
	}
}

// P6.2: text becomes much smaller, in fixed codes if it is short, in codes of its own if it is long.
func TestText(t *testing.T) {
	short := checkDeflate(t, []byte("abcabcabcabcabcabcabc"))
	if len(short) > 8 || short[0]&7 != 3 {
		t.Errorf("a short text: %x", short)
	}
	var text []byte
	words := strings.Fields("a terminal that roams shows what the server told of the screen and takes guesses back where they were wrong")
	for _, n := range scrambled(5000, len(words), 4) {
		text = append(append(text, words[n]...), ' ')
	}
	long := checkDeflate(t, text)
	if len(long) > len(text)/4 || long[0]&7 != 5 {
		t.Errorf("a long text: %d bytes of %d", len(long), len(text))
	}
}

// P6.2: each length and each distance has the symbol of layer 5, and the extra bits that lead to it.
func TestSymbols(t *testing.T) {
	for length := 3; length <= 258; length++ {
		symbol, x := lengthSymbol(length)
		base, extra, e := inflate.Length(symbol)
		if base+int(x.Value) != length || x.Size != extra || e != api.OK || x.Value>>uint(x.Size) != 0 {
			t.Errorf("length %d: symbol %d, %d", length, symbol, x)
		}
	}
	for distance := 1; distance <= 32768; distance++ {
		symbol, x := distanceSymbol(distance)
		base, extra, e := inflate.Distance(symbol)
		if base+int(x.Value) != distance || x.Size != extra || e != api.OK || x.Value>>uint(x.Size) != 0 {
			t.Errorf("distance %d: symbol %d, %d", distance, symbol, x)
		}
	}
	if symbol, x := lengthSymbol(258); symbol != 285 || x != (api.Bits{}) {
		t.Errorf("length 258: symbol %d, %d", symbol, x)
	}
}

// P6.2: rows of lengths with each number of the same ones behind each other are told by words that tell just them.
func TestWords(t *testing.T) {
	for _, length := range []int{0, 1, 9, 15} {
		for same := 1; same <= 300; same++ {
			for _, ahead := range [][]int{nil, {7}, {0}, {length}} {
				row := append(slices.Concat(ahead, slices.Repeat([]int{length}, same)), 3)
				l := words(row)
				if told := toldBy(l); !slices.Equal(told, row) {
					t.Fatalf("%d times %d behind %d: %d words tell %d lengths", same, length, ahead, len(l), len(told))
				}
				if len(l) > 8+same/6 || length == 0 && len(l) > 7 {
					t.Fatalf("%d times %d: %d words", same, length, len(l))
				}
			}
		}
	}
}

// toldBy is the lengths that words tell, as the document of layer 5 says.
func toldBy(l []word) []int {
	var row []int
	for _, w := range l {
		length, times, size := w.kind, 1, 0
		switch w.kind {
		case 16:
			length, times, size = row[len(row)-1], 3+int(w.extra.Value), 2
		case 17:
			length, times, size = 0, 3+int(w.extra.Value), 3
		case 18:
			length, times, size = 0, 11+int(w.extra.Value), 7
		}
		if w.extra.Size != size || w.extra.Value>>uint(size) != 0 {
			return nil
		}
		row = append(row, slices.Repeat([]int{length}, times)...)
	}
	return row
}

// P6.2: how long a stream is is known ahead of writing it.
func TestSize(t *testing.T) {
	for seed := range 40 {
		b := scrambled(seed*97, 3+seed*6, uint64(seed))
		tokens, _ := Match(b)
		for _, w := range []way{fixedWay(), ownWay(tokens)} {
			stream, e := w.write(tokens)
			if len(stream) != w.size(tokens) || e != api.OK {
				t.Errorf("%d bytes counted, %d written, %v", w.size(tokens), len(stream), e)
			}
			checkStream(t, stream, b)
		}
		best, size := shortest(tokens, fixedWay(), ownWay(tokens))
		if size != best.size(tokens) || size != min(fixedWay().size(tokens), ownWay(tokens).size(tokens)) {
			t.Errorf("the shortest one has %d bytes", size)
		}
	}
}

// P6.2: a block's own lengths are the best there are for its tokens.
func TestOwnLengths(t *testing.T) {
	tokens, _ := Match(scrambled(5000, 40, 12))
	symbols, distances := counts(tokens)
	w := ownWay(tokens)
	for _, c := range []struct {
		counts []int
		codes  []api.Bits
	}{{symbols, w.symbols}, {distances, w.distances}} {
		lengths, _ := huff.Lengths(c.counts, 15)
		want, _ := huff.Cost(c.counts, lengths)
		got := 0
		for i, code := range c.codes {
			got += c.counts[i] * code.Size
		}
		if got != want {
			t.Errorf("codes cost %d, want %d", got, want)
		}
	}
}

func BenchmarkDeflateText(b *testing.B) {
	text := []byte(strings.Repeat("what comes again comes again and again, but not always. ", 1200))[:65536]
	for b.Loop() {
		Deflate(text)
	}
}

func BenchmarkDeflateNoise(b *testing.B) {
	noise := scrambled(65536, 256, 1)
	for b.Loop() {
		Deflate(noise)
	}
}

func BenchmarkDeflateFewLetters(b *testing.B) {
	noise := scrambled(65536, 2, 1)
	for b.Loop() {
		Deflate(noise)
	}
}

func BenchmarkDeflateShort(b *testing.B) {
	text := []byte("a line of some sixty letters, as a screen's difference has it")
	for b.Loop() {
		Deflate(text)
	}
}
