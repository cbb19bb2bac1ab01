package utf

import (
	"bytes"
	"math"
	"slices"
	"testing"
	"unicode/utf8"
)

// r is the replacement.
const r = rune(65533)

// noise is numbers that look like chance and are always the same ones.
type noise uint64

func (n *noise) next() uint64 {
	*n = *n*6364136223846793005 + 1442695040888963407
	return uint64(*n >> 32)
}

// roomy is a list with room behind it that has something, too.
func roomy[T byte | rune](l []T) []T {
	return slices.Concat(l, []T{0x5a, 0x25, 0x5a, 0x25})[:len(l)]
}

// spoil turns all of a list about, what is in the room behind the end too.
func spoil[T byte | rune](l []T) {
	for i := range l[:cap(l)] {
		l[:cap(l)][i] ^= 0x7f
	}
}

// checkDecode holds Decode to characters, to the slow reading and to what a reader tells, what it was handed to staying as it is, and what it answers to being its own.
func checkDecode(t *testing.T, b []byte, want ...rune) {
	t.Helper()
	handed := roomy(b)
	whole := bytes.Clone(handed[:cap(handed)])
	l := Decode(handed)
	if !slices.Equal(l, want) || !slices.Equal(slowDecode(b), want) {
		t.Fatalf("Decode(% x) = %d, want %d (or %d)", b, l, want, slowDecode(b))
	}
	again := Decode(handed)
	spoil(l)
	if !slices.Equal(again, want) {
		t.Fatal("two answers of Decode share memory")
	}
	if !bytes.Equal(handed[:cap(handed)], whole) {
		t.Fatal("Decode changed what it was handed")
	}
	checkReader(t, New(), b)
}

// checkEncode holds Encode to bytes and to the slow reading, what it was handed to staying as it is, and what it answers to being its own.
func checkEncode(t *testing.T, l []rune, want ...byte) {
	t.Helper()
	handed := roomy(l)
	whole := slices.Clone(handed[:cap(handed)])
	b := Encode(handed)
	if !bytes.Equal(b, want) || !bytes.Equal(slowEncode(l), want) {
		t.Fatalf("Encode(%d) = % x, want % x (or % x)", l, b, want, slowEncode(l))
	}
	again := Encode(handed)
	spoil(b)
	if !bytes.Equal(again, want) {
		t.Fatal("two answers of Encode share memory")
	}
	if !slices.Equal(handed[:cap(handed)], whole) {
		t.Fatal("Encode changed what it was handed")
	}
}

// P11.1: the examples of the chapter.
func TestExamples(t *testing.T) {
	checkDecode(t, []byte{0x61, 0xc3, 0xa9, 0xf0, 0x9f, 0x98, 0x80}, 97, 233, 128512)
	checkDecode(t, []byte{0xff, 0x61}, r, 97)
	checkDecode(t, []byte{0xe2, 0x82}, r)
	checkDecode(t, []byte{0xe2, 0x82, 0x61}, r, 97)
	checkDecode(t, []byte{0xc0, 0x80}, r, r)
	checkDecode(t, []byte{0xed, 0xa0, 0x80}, r, r, r)
	checkDecode(t, []byte{0xf4, 0x90, 0x80, 0x80}, r, r, r, r)
	checkEncode(t, []rune{233, 55296}, 0xc3, 0xa9, 0xef, 0xbf, 0xbd)
}

// P11.1: no bytes and no characters, be they nil or empty.
func TestNone(t *testing.T) {
	checkDecode(t, nil)
	checkDecode(t, []byte{})
	checkEncode(t, nil)
	checkEncode(t, []rune{})
	if len(Decode(nil)) != 0 || len(Encode(nil)) != 0 {
		t.Error("something is told of nothing")
	}
}

// formed is a character and its form, by hand.
type formed struct {
	char rune
	form []byte
}

// edges is characters at each edge.
func edges() []formed {
	return []formed{
		{0, []byte{0}},
		{1, []byte{1}},
		{126, []byte{0x7e}},
		{127, []byte{0x7f}},
		{128, []byte{0xc2, 0x80}},
		{191, []byte{0xc2, 0xbf}},
		{192, []byte{0xc3, 0x80}},
		{2047, []byte{0xdf, 0xbf}},
		{2048, []byte{0xe0, 0xa0, 0x80}},
		{4095, []byte{0xe0, 0xbf, 0xbf}},
		{4096, []byte{0xe1, 0x80, 0x80}},
		{53247, []byte{0xec, 0xbf, 0xbf}},
		{53248, []byte{0xed, 0x80, 0x80}},
		{55295, []byte{0xed, 0x9f, 0xbf}},
		{57344, []byte{0xee, 0x80, 0x80}},
		{65533, []byte{0xef, 0xbf, 0xbd}},
		{65534, []byte{0xef, 0xbf, 0xbe}},
		{65535, []byte{0xef, 0xbf, 0xbf}},
		{65536, []byte{0xf0, 0x90, 0x80, 0x80}},
		{262143, []byte{0xf0, 0xbf, 0xbf, 0xbf}},
		{262144, []byte{0xf1, 0x80, 0x80, 0x80}},
		{1048575, []byte{0xf3, 0xbf, 0xbf, 0xbf}},
		{1048576, []byte{0xf4, 0x80, 0x80, 0x80}},
		{1114110, []byte{0xf4, 0x8f, 0xbf, 0xbe}},
		{1114111, []byte{0xf4, 0x8f, 0xbf, 0xbf}},
	}
}

// noChars is numbers that are no characters, at each edge, and such as a cut to fewer bits would make characters of.
func noChars() []rune {
	return []rune{
		-1, -2, -97, -128, -65536, -1114111, -1114112, math.MinInt32, math.MinInt32 + 1, math.MinInt32 + 97,
		55296, 55297, 56319, 56320, 57342, 57343,
		1114112, 1114113, 1 << 21, 1<<21 + 97, 1<<22 - 1, 1 << 24, 1<<24 + 97, 1 << 30, math.MaxInt32 - 1, math.MaxInt32,
	}
}

// P11.1, P11.3: characters at each edge, encoded and decoded again.
func TestEdges(t *testing.T) {
	var chars []rune
	var forms []byte
	for _, x := range edges() {
		if !May(x.char) {
			t.Errorf("May(%d) = false", x.char)
		}
		checkEncode(t, []rune{x.char}, x.form...)
		checkDecode(t, x.form, x.char)
		chars = append(chars, x.char)
		forms = append(forms, x.form...)
	}
	checkEncode(t, chars, forms...)
	checkDecode(t, forms, chars...)
}

// P11.1: what is no character has the replacement's form, among others too.
func TestNoChars(t *testing.T) {
	for _, c := range noChars() {
		if May(c) {
			t.Errorf("May(%d) = true", c)
		}
		checkEncode(t, []rune{c}, 0xef, 0xbf, 0xbd)
		checkEncode(t, []rune{'a', c, 233, c, c}, 'a', 0xef, 0xbf, 0xbd, 0xc3, 0xa9, 0xef, 0xbf, 0xbd, 0xef, 0xbf, 0xbd)
	}
}

// P11.1, P11.3: all numbers near the characters, one by one and all characters at once, also against the language's own forms.
func TestAllChars(t *testing.T) {
	var chars []rune
	var forms []byte
	for c := rune(-5000); c < 1120000; c++ {
		b := Encode([]rune{c})
		if May(c) != slowMay(int(c)) || May(c) != utf8.ValidRune(c) {
			t.Fatalf("May(%d) = %v", c, May(c))
		}
		if !bytes.Equal(b, slowEncode([]rune{c})) || !bytes.Equal(b, utf8.AppendRune(nil, c)) {
			t.Fatalf("Encode(%d) = % x", c, b)
		}
		back := c
		if !May(c) {
			back = r
		} else {
			chars = append(chars, c)
			forms = append(forms, b...)
		}
		if l := Decode(b); len(l) != 1 || l[0] != back {
			t.Fatalf("Decode of Encode(%d) = %d", c, l)
		}
	}
	if len(chars) != 1114112-2048 {
		t.Fatalf("%d characters", len(chars))
	}
	if !bytes.Equal(Encode(chars), forms) || !slices.Equal(Decode(forms), chars) {
		t.Error("all characters at once are others than one by one")
	}
}

// P11.1: each byte that begins no form is one replacement, wherever it stands.
func TestBeginsNone(t *testing.T) {
	count := 0
	for i := range 256 {
		b := byte(i)
		if b < 0x80 || b >= 0xc2 && b <= 0xf4 {
			continue
		}
		count++
		checkDecode(t, []byte{b}, r)
		checkDecode(t, []byte{b, b}, r, r)
		checkDecode(t, []byte{b, 'a'}, r, 'a')
		checkDecode(t, []byte{'a', b, 'b'}, 'a', r, 'b')
		checkDecode(t, []byte{0xc3, 0xa9, b}, 233, r)
		checkDecode(t, []byte{b, 0xc3, 0xa9}, r, 233)
		checkDecode(t, []byte{0xf0, 0x9f, 0x98, 0x80, b}, 128512, r)
	}
	if count != 64+2+11 {
		t.Errorf("%d bytes begin no form", count)
	}
}

// P11.1: each byte that begins a form is one replacement at the end and ahead of another character.
func TestBeginsSome(t *testing.T) {
	for b := byte(0xc2); b <= 0xf4; b++ {
		checkDecode(t, []byte{b}, r)
		checkDecode(t, []byte{b, b}, r, r)
		checkDecode(t, []byte{b, 'a'}, r, 'a')
		checkDecode(t, []byte{b, 0xff}, r, r)
		checkDecode(t, []byte{b, 0xc0, 0xc1}, r, r, r)
		checkDecode(t, []byte{b, 0xc3, 0xa9}, r, 233)
	}
}

// P11.1: forms cut short at each place are one replacement, at the end, ahead of another character, of another cut form and of what begins none.
func TestCutShort(t *testing.T) {
	for _, x := range edges() {
		for size := 1; size < len(x.form); size++ {
			cut := x.form[:size]
			checkDecode(t, cut, r)
			checkDecode(t, slices.Concat([]byte("ab"), cut), 'a', 'b', r)
			checkDecode(t, slices.Concat(cut, []byte{0}), r, 0)
			checkDecode(t, slices.Concat(cut, []byte{0x7f}), r, 127)
			for _, b := range []byte{0xc0, 0xc1, 0xf5, 0xff} {
				checkDecode(t, slices.Concat(cut, []byte{b}), r, r)
				checkDecode(t, slices.Concat(cut, []byte{b, 0x80}), r, r, r)
			}
			for _, y := range edges() {
				checkDecode(t, slices.Concat(cut, y.form), r, y.char)
				checkDecode(t, slices.Concat(y.form, cut), y.char, r)
				for other := 1; other < len(y.form); other++ {
					checkDecode(t, slices.Concat(cut, y.form[:other]), r, r)
					checkDecode(t, slices.Concat(cut, y.form[:other], []byte("a")), r, r, 'a')
				}
			}
		}
	}
}

// P11.1: a byte too many behind a form is one replacement.
func TestTooMany(t *testing.T) {
	for _, x := range edges() {
		for _, b := range []byte{0x80, 0x8f, 0x90, 0x9f, 0xa0, 0xbf} {
			checkDecode(t, slices.Concat(x.form, []byte{b}), x.char, r)
			checkDecode(t, slices.Concat(x.form, []byte{b, b, 'a'}), x.char, r, r, 'a')
		}
	}
}

// P11.1: bytes of the shape of a form that are none: each byte is a replacement of its own, as none of them begins a form together with the next.
func TestShapesOnly(t *testing.T) {
	for _, b := range [][]byte{
		// longer forms than a character has
		{0xc0, 0x80}, {0xc0, 0xaf}, {0xc1, 0xbf},
		{0xe0, 0x80, 0x80}, {0xe0, 0x80, 0xaf}, {0xe0, 0x81, 0xbf}, {0xe0, 0x82, 0x80}, {0xe0, 0x9f, 0xbf},
		{0xf0, 0x80, 0x80, 0x80}, {0xf0, 0x80, 0x80, 0xaf}, {0xf0, 0x80, 0x9f, 0xbf}, {0xf0, 0x82, 0x82, 0xac}, {0xf0, 0x8f, 0xbf, 0xbf},
		// from 55296 to 57343
		{0xed, 0xa0, 0x80}, {0xed, 0xad, 0xbf}, {0xed, 0xaf, 0xbf}, {0xed, 0xb0, 0x80}, {0xed, 0xbf, 0xbf},
		{0xed, 0xa0, 0xbd, 0xed, 0xb8, 0x80}, {0xf0, 0x8d, 0xa0, 0x80},
		// above 1114111
		{0xf4, 0x90, 0x80, 0x80}, {0xf4, 0x9f, 0xbf, 0xbf}, {0xf4, 0xbf, 0xbf, 0xbf},
		{0xf5, 0x80, 0x80, 0x80}, {0xf7, 0xbf, 0xbf, 0xbf},
		{0xf8, 0x88, 0x80, 0x80, 0x80}, {0xf8, 0x80, 0x80, 0x80, 0x80}, {0xfb, 0xbf, 0xbf, 0xbf, 0xbf},
		{0xfc, 0x84, 0x80, 0x80, 0x80, 0x80}, {0xfd, 0xbf, 0xbf, 0xbf, 0xbf, 0xbf}, {0xfe, 0xff},
	} {
		all := slices.Repeat([]rune{r}, len(b))
		checkDecode(t, b, all...)
		checkDecode(t, slices.Concat(b, []byte("a")), slices.Concat(all, []rune("a"))...)
		checkDecode(t, slices.Concat([]byte("a"), b, []byte{0xc3, 0xa9}), slices.Concat([]rune("a"), all, []rune{233})...)
		for size := 1; size < len(b); size++ {
			checkDecode(t, b[:size], all[:size]...)
		}
	}
}

// P11.1: all numbers of so many bits in shapes of two, three and four bytes: a character where that is its form, as many replacements as bytes where not.
func TestAllShapes(t *testing.T) {
	for _, shape := range []struct {
		first byte
		size  int
		least int
	}{{0xc0, 2, 128}, {0xe0, 3, 2048}, {0xf0, 4, 65536}} {
		for c := range 1 << (5*shape.size + 1) {
			b := make([]byte, shape.size)
			rest := c
			for i := shape.size - 1; i > 0; i-- {
				b[i] = byte(128 + rest%64)
				rest /= 64
			}
			b[0] = shape.first + byte(rest)
			want := slices.Repeat([]rune{r}, shape.size)
			if c >= shape.least && slowMay(c) {
				want = []rune{rune(c)}
			}
			if l := Decode(b); !slices.Equal(l, want) {
				t.Fatalf("Decode(% x) = %d, want %d", b, l, want)
			}
		}
	}
}

// P11.1: bytes of all kinds among each other, by hand.
func TestMixed(t *testing.T) {
	checkDecode(t, []byte{0x61, 0xf1, 0x80, 0x80, 0xe1, 0x80, 0xc2, 0x62, 0x80, 0x63, 0x80, 0xbf, 0x64}, 'a', r, r, r, 'b', r, 'c', r, r, 'd')
	checkDecode(t, []byte{0xf0, 0x90, 0xf0, 0x90}, r, r)
	checkDecode(t, []byte{0xf0, 0x9f, 0x98, 0xf0, 0x9f, 0x98, 0x80}, r, 128512)
	checkDecode(t, []byte{0xf0, 0x80, 0x61}, r, r, 'a')
	checkDecode(t, []byte{0xe0, 0xe0, 0xa0, 0xe0, 0xa0, 0x80, 0xe0}, r, r, 2048, r)
	checkDecode(t, []byte{0xe2, 0x82, 0xe2, 0x82, 0xac, 0x80, 0xc3}, r, 0x20ac, r, r)
	checkDecode(t, []byte{0xed, 0x9f, 0xed, 0xa0, 0xed, 0x9f, 0xbf}, r, r, r, 55295)
	checkDecode(t, []byte{0xf4, 0x8f, 0xbf, 0xf4, 0x90, 0xf4, 0x8f, 0xbf, 0xbf}, r, r, r, 1114111)
	checkDecode(t, []byte{0xef, 0xbf, 0xbd, 0xef, 0xbf, 0xef, 0xbf, 0xbd}, r, r, r)
	checkDecode(t, []byte{0xef, 0xbb, 0xbf, 0x61}, 65279, 'a')
	checkDecode(t, []byte{0x1b, 0x5b, 0xc2, 0x9b, 0x00, 0x7f}, 27, '[', 155, 0, 127)
}

// edgeBytes is bytes at each edge of what the document tells apart.
func edgeBytes() []byte {
	return []byte{0, 0x61, 0x7f, 0x80, 0x8f, 0x90, 0x9f, 0xa0, 0xbf, 0xc0, 0xc1, 0xc2, 0xdf, 0xe0, 0xe1, 0xec, 0xed, 0xee, 0xef, 0xf0, 0xf1, 0xf3, 0xf4, 0xf5, 0xff}
}

// rows is all rows of so many of these bytes.
func rows(bytes []byte, size int) [][]byte {
	if size == 0 {
		return [][]byte{nil}
	}
	var out [][]byte
	for _, x := range rows(bytes, size-1) {
		for _, b := range bytes {
			out = append(out, slices.Concat(x, []byte{b}))
		}
	}
	return out
}

// checkAsSlow holds Decode and a reader to the slow reading, whatever that answers.
func checkAsSlow(t *testing.T, b []byte) {
	t.Helper()
	checkDecode(t, b, slowDecode(b)...)
}

// P11.1, P11.2, P11.3: all rows of up to two bytes, and of up to four at the edges.
func TestAllRows(t *testing.T) {
	for a := range 256 {
		checkAsSlow(t, []byte{byte(a)})
		for b := range 256 {
			checkAsSlow(t, []byte{byte(a), byte(b)})
		}
	}
	for _, b := range rows(edgeBytes(), 3) {
		checkAsSlow(t, b)
	}
	for _, b := range rows(edgeBytes(), 4) {
		if l, want := Decode(b), slowDecode(b); !slices.Equal(l, want) {
			t.Fatalf("Decode(% x) = %d, want %d", b, l, want)
		}
	}
}

// noisyBytes is some bytes: of chance, of the edges, of whole forms and of cut ones.
func noisyBytes(n *noise, pieces int) (b []byte) {
	edge, forms := edgeBytes(), edges()
	for range pieces {
		form := forms[n.next()%uint64(len(forms))].form
		switch n.next() % 4 {
		case 0:
			b = append(b, byte(n.next()))
		case 1:
			b = append(b, edge[n.next()%uint64(len(edge))])
		case 2:
			b = append(b, form...)
		case 3:
			b = append(b, form[:n.next()%uint64(len(form)+1)]...)
		}
	}
	return b
}

// P11.1, P11.2, P11.3: bytes that look like chance.
func TestNoise(t *testing.T) {
	n := noise(11)
	for range 5000 {
		checkAsSlow(t, noisyBytes(&n, int(n.next()%40)))
	}
	for range 20 {
		b := noisyBytes(&n, 20000)
		if !slices.Equal(Decode(b), slowDecode(b)) {
			t.Fatal("Decode of many bytes is not the slow reading's")
		}
	}
}

// P11.3: Decode of Encode is the characters, Encode of Decode the bytes that hold forms alone; of others it is what stands for them.
func TestThereAndBack(t *testing.T) {
	n := noise(3)
	for range 3000 {
		chars := make([]rune, n.next()%30)
		for i := range chars {
			chars[i] = rune(n.next() >> (11 + n.next()%20) % 1114112)
			if !slowMay(int(chars[i])) {
				chars[i] -= 2048
			}
		}
		forms := Encode(chars)
		checkEncode(t, chars, forms...)
		checkDecode(t, forms, chars...)
		if !bytes.Equal(Encode(Decode(forms)), forms) {
			t.Fatalf("Encode of Decode(% x) = % x", forms, Encode(Decode(forms)))
		}
		b := noisyBytes(&n, 12)
		l := Decode(b)
		if !slices.Equal(Decode(Encode(l)), l) {
			t.Fatalf("Decode of Encode(%d) = %d", l, Decode(Encode(l)))
		}
		if bytes.Equal(Encode(l), b) != utf8.Valid(b) {
			t.Fatalf("Encode of Decode(% x) = % x", b, Encode(l))
		}
	}
}

// P11.3: one call does not hang on those ahead of it.
func TestAlike(t *testing.T) {
	for range 3 {
		checkDecode(t, []byte{0xf0, 0x90, 0x80}, r)
		checkDecode(t, []byte{0x80, 'a'}, r, 'a')
		checkEncode(t, []rune{65536, -1}, 0xf0, 0x90, 0x80, 0x80, 0xef, 0xbf, 0xbd)
	}
}

// chars is a row of characters with forms of all sizes.
func chars() (l []rune) {
	for range 4000 {
		for _, x := range edges() {
			l = append(l, x.char)
		}
	}
	return l
}

func BenchmarkEncode(b *testing.B) {
	l := chars()
	for b.Loop() {
		Encode(l)
	}
}

func BenchmarkDecode(b *testing.B) {
	forms := Encode(chars())
	b.SetBytes(int64(len(forms)))
	for b.Loop() {
		Decode(forms)
	}
}

func BenchmarkDecodePlain(b *testing.B) {
	text := bytes.Repeat([]byte("plain text, "), 5000)
	b.SetBytes(int64(len(text)))
	for b.Loop() {
		Decode(text)
	}
}
