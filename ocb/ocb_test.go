package ocb

import (
	"bytes"
	"encoding/binary"
	"encoding/hex"
	"testing"
	"time"

	"wayfarer/api"
)

// of is the bytes of hexadecimal digits.
func of(t *testing.T, digits string) []byte {
	t.Helper()
	b, err := hex.DecodeString(digits)
	if err != nil {
		t.Fatal(err)
	}
	return b
}

// rising is 00 01 02 .., the key of the examples if it has sixteen bytes.
func rising(size int) []byte {
	b := make([]byte, size)
	for i := range b {
		b[i] = byte(i)
	}
	return b
}

func exampleKey() api.Block { return api.Block(rising(16)) }

// scrambled is so many bytes with no order to be seen, the same ones for the same seed.
func scrambled(size int, seed uint64) []byte {
	b := make([]byte, size)
	for i := range b {
		seed = seed*6364136223846793005 + 1442695040888963407
		b[i] = byte(seed >> 56)
	}
	return b
}

// sizes is how many bytes plain texts and bytes beside have in the tests: around one block, two, and many.
func sizes() []int {
	return []int{0, 1, 15, 16, 17, 31, 32, 33, 127, 128, 129, 1024, 1039}
}

// mustSeal is Seal where no error may be.
func mustSeal(t *testing.T, key api.Block, nonce, beside, plain []byte) []byte {
	t.Helper()
	sealed, e := Seal(key, nonce, beside, plain)
	if e != api.OK {
		t.Fatalf("Seal of %d bytes, %d beside, nonce %x: %v", len(plain), len(beside), nonce, e)
	}
	return sealed
}

// checkOpen holds an answer of Open against what is asked for.
func checkOpen(t *testing.T, what string, got []byte, e api.Errno, want []byte, wantE api.Errno) {
	t.Helper()
	if e != wantE || !bytes.Equal(got, want) {
		t.Errorf("Open %s = %d bytes %.40x, %v, want %d bytes %.40x, %v", what, len(got), got, e, len(want), want, wantE)
	}
}

// P2.1: the examples of the chapter.
func TestExamples(t *testing.T) {
	nonce := of(t, "BBAA99887766554433221100")
	want := of(t, "785407BFFFC8AD9EDCC5520AC9111EE6")
	if got := mustSeal(t, exampleKey(), nonce, nil, nil); !bytes.Equal(got, want) {
		t.Errorf("Seal = %x, want %x", got, want)
	}
	got, e := Open(exampleKey(), nonce, nil, want)
	checkOpen(t, "the example", got, e, nil, api.OK)
	turned := bytes.Clone(want)
	turned[15] ^= 255
	got, e = Open(exampleKey(), nonce, nil, turned)
	checkOpen(t, "with the last byte turned", got, e, nil, api.ErrTag)
	got, e = Open(exampleKey(), nonce, nil, want[:15])
	checkOpen(t, "of 15 bytes", got, e, nil, api.ErrShort)
	if got, e := Seal(exampleKey(), nil, nil, nil); len(got) != 0 || e != api.ErrArg {
		t.Errorf("Seal without a nonce = %x, %v", got, e)
	}
}

// P2.1: the answers of RFC 7253, appendix A; the nonces count up from the first to the last.
func TestKnownAnswers(t *testing.T) {
	for i, c := range []struct {
		beside, plain int
		sealed        string
	}{
		{0, 0, "785407BFFFC8AD9EDCC5520AC9111EE6"},
		{8, 8, "6820B3657B6F615A5725BDA0D3B4EB3A257C9AF1F8F03009"},
		{8, 0, "81017F8203F081277152FADE694A0A00"},
		{0, 8, "45DD69F8F5AAE72414054CD1F35D82760B2CD00D2F99BFA9"},
		{16, 16, "571D535B60B277188BE5147170A9A22C3AD7A4FF3835B8C5701C1CCEC8FC3358"},
		{16, 0, "8CF761B6902EF764462AD86498CA6B97"},
		{0, 16, "5CE88EC2E0692706A915C00AEB8B2396F40E1C743F52436BDF06D8FA1ECA343D"},
		{24, 24, "1CA2207308C87C010756104D8840CE1952F09673A448A122C92C62241051F57356D7F3C90BB0E07F"},
		{24, 0, "6DC225A071FC1B9F7C69F93B0F1E10DE"},
		{0, 24, "221BD0DE7FA6FE993ECCD769460A0AF2D6CDED0C395B1C3CE725F32494B9F914D85C0B1EB38357FF"},
		{32, 32, "BD6F6C496201C69296C11EFD138A467ABD3C707924B964DEAFFC40319AF5A48540FBBA186C5553C68AD9F592A79A4240"},
		{32, 0, "FE80690BEE8A485D11F32965BC9D2A32"},
		{0, 32, "2942BFC773BDA23CABC6ACFD9BFD5835BD300F0973792EF46040C53F1432BCDFB5E1DDE3BC18A5F840B52E653444D5DF"},
		{40, 40, "D5CA91748410C1751FF8A2F618255B68A0A12E093FF454606E59F9C1D0DDC54B65E8628E568BAD7AED07BA06A4A69483A7035490C5769E60"},
		{40, 0, "C5CD9D1850C141E358649994EE701B68"},
		{0, 40, "4412923493C57D5DE0D700F753CCE0D1D2D95060122E9F15A5DDBFC5787E50B5CC55EE507BCB084E479AD363AC366B95A98CA5F3000B1479"},
	} {
		nonce := append(of(t, "BBAA998877665544332211"), byte(i))
		beside, plain, want := rising(c.beside), rising(c.plain), of(t, c.sealed)
		if got := mustSeal(t, exampleKey(), nonce, beside, plain); !bytes.Equal(got, want) {
			t.Errorf("Seal %d = %x, want %x", i, got, want)
		}
		got, e := Open(exampleKey(), nonce, beside, want)
		checkOpen(t, c.sealed, got, e, plain, api.OK)
	}
}

// P2.1: the long run of RFC 7253, appendix A: texts of 0 to 127 bytes, all sealed ones being bytes beside the last.
func TestKnownRun(t *testing.T) {
	key := api.Block{15: 128}
	nonce := func(i int) []byte { return binary.BigEndian.AppendUint32(make([]byte, 8), uint32(i)) }
	var run []byte
	for i := range 128 {
		s := make([]byte, i)
		run = append(run, mustSeal(t, key, nonce(3*i+1), s, s)...)
		run = append(run, mustSeal(t, key, nonce(3*i+2), nil, s)...)
		run = append(run, mustSeal(t, key, nonce(3*i+3), s, nil)...)
	}
	want := of(t, "67E944D23256C5E0B6C61FA22FDF1EA2")
	if got := mustSeal(t, key, nonce(385), run, nil); !bytes.Equal(got, want) {
		t.Errorf("the run is %x, want %x", got, want)
	}
}

// P2.1 and P2.2: all sizes of plain bytes with all sizes of bytes beside, held against the document's words and opened again.
func TestSizes(t *testing.T) {
	key := api.Block(scrambled(16, 5))
	for i, size := range sizes() {
		for n, size2 := range sizes() {
			nonce := scrambled(12, uint64(100*i+n))
			plain, beside := scrambled(size, 1), scrambled(size2, 2)
			want := slow{t, key}.seal(nonce, beside, plain)
			sealed := mustSeal(t, key, nonce, beside, plain)
			if !bytes.Equal(sealed, want) {
				t.Fatalf("Seal of %d bytes, %d beside = %x, want %x", size, size2, sealed, want)
			}
			got, e := Open(key, nonce, beside, sealed)
			checkOpen(t, "of Seal", got, e, plain, api.OK)
		}
	}
}

// P2.1 and P2.2: nonces of all lengths, with all numbers in the last six bits, and of noughts and of 255.
func TestNonces(t *testing.T) {
	key := exampleKey()
	plain, beside := scrambled(40, 3), scrambled(20, 4)
	check := func(nonce []byte) {
		t.Helper()
		want := slow{t, key}.seal(nonce, beside, plain)
		sealed := mustSeal(t, key, nonce, beside, plain)
		if !bytes.Equal(sealed, want) {
			t.Errorf("Seal with the nonce %x = %x, want %x", nonce, sealed, want)
		}
		got, e := Open(key, nonce, beside, sealed)
		checkOpen(t, "of Seal", got, e, plain, api.OK)
	}
	for size := 1; size <= 15; size++ {
		check(make([]byte, size))
		check(bytes.Repeat([]byte{255}, size))
		check(scrambled(size, uint64(size)))
	}
	for last := range 256 {
		check([]byte{byte(last)})
		check(append(scrambled(11, 6), byte(last)))
	}
}

// P2.1: a nought ahead of a nonce makes another one.
func TestNoncesOfUnlikeLengths(t *testing.T) {
	for size := 1; size < 15; size++ {
		sealed := mustSeal(t, exampleKey(), make([]byte, size), nil, []byte("plain"))
		got, e := Open(exampleKey(), make([]byte, size+1), nil, sealed)
		checkOpen(t, "with a longer nonce", got, e, nil, api.ErrTag)
	}
}

// P2.1 and P2.2: as many bytes as may be, held against the document's words and opened again.
func TestLongest(t *testing.T) {
	key, nonce := exampleKey(), []byte{9}
	long := scrambled(api.MaxBytes, 7)
	sealed := mustSeal(t, key, nonce, long, long)
	if want := (slow{t, key}).seal(nonce, long, long); !bytes.Equal(sealed, want) {
		t.Errorf("Seal of the longest differs")
	}
	got, e := Open(key, nonce, long, sealed)
	checkOpen(t, "of the longest", got, e, long, api.OK)
}

// P2.1: each error at its edge, and which one comes first.
func TestErrors(t *testing.T) {
	key, one := exampleKey(), []byte{1}
	most, more := make([]byte, api.MaxBytes), make([]byte, api.MaxBytes+1)
	for i, c := range []struct {
		nonce, beside, plain []byte
		want                 api.Errno
	}{
		{nil, nil, nil, api.ErrArg},
		{[]byte{}, nil, nil, api.ErrArg},
		{make([]byte, 16), nil, nil, api.ErrArg},
		{make([]byte, 100), nil, nil, api.ErrArg},
		{nil, more, more, api.ErrArg},
		{make([]byte, 16), nil, more, api.ErrArg},
		{one, nil, most, api.OK},
		{one, most, nil, api.OK},
		{one, nil, more, api.ErrLimit},
		{one, more, nil, api.ErrLimit},
		{make([]byte, 15), more, more, api.ErrLimit},
		{make([]byte, 15), nil, nil, api.OK},
	} {
		got, e := Seal(key, c.nonce, c.beside, c.plain)
		if e != c.want || e != api.OK && len(got) != 0 {
			t.Errorf("Seal %d = %d bytes, %v, want %v", i, len(got), e, c.want)
		}
	}
	for i, c := range []struct {
		nonce, beside []byte
		size          int
		want          api.Errno
	}{
		{nil, nil, 16, api.ErrArg},
		{nil, nil, 15, api.ErrArg},
		{nil, more, api.MaxBytes + 17, api.ErrArg},
		{make([]byte, 16), nil, 16, api.ErrArg},
		{one, nil, api.MaxBytes + 16, api.ErrTag},
		{one, nil, api.MaxBytes + 17, api.ErrLimit},
		{one, most, 16, api.ErrTag},
		{one, more, 16, api.ErrLimit},
		{one, more, 15, api.ErrLimit},
		{one, more, 0, api.ErrLimit},
		{one, nil, 0, api.ErrShort},
		{one, nil, 15, api.ErrShort},
		{one, most, 15, api.ErrShort},
		{one, nil, 16, api.ErrTag},
		{make([]byte, 15), nil, 17, api.ErrTag},
	} {
		got, e := Open(key, c.nonce, c.beside, make([]byte, c.size))
		if e != c.want || len(got) != 0 {
			t.Errorf("Open %d = %d bytes, %v, want %v", i, len(got), e, c.want)
		}
	}
}

// P2.2: with any bit turned, of the text or of the tag, or with bytes taken away or put to them, sealed bytes do not open.
func TestForgeries(t *testing.T) {
	key, nonce, beside := exampleKey(), []byte{1, 2, 3}, []byte("beside")
	for _, size := range []int{0, 1, 15, 16, 17, 33} {
		sealed := mustSeal(t, key, nonce, beside, scrambled(size, 8))
		for bit := range 8 * len(sealed) {
			bad := bytes.Clone(sealed)
			bad[bit/8] ^= 1 << (bit % 8)
			got, e := Open(key, nonce, beside, bad)
			checkOpen(t, "with a bit turned", got, e, nil, api.ErrTag)
		}
		for _, bad := range [][]byte{
			append(bytes.Clone(sealed), 0),
			append([]byte{0}, sealed...),
			append(bytes.Clone(sealed), sealed...),
			append(bytes.Clone(sealed[:size]), make([]byte, 16)...),
		} {
			got, e := Open(key, nonce, beside, bad)
			checkOpen(t, "of other bytes", got, e, nil, api.ErrTag)
		}
		for less := range len(sealed) {
			want := api.ErrTag
			if less < 16 {
				want = api.ErrShort
			}
			got, e := Open(key, nonce, beside, sealed[:less])
			checkOpen(t, "of fewer bytes", got, e, nil, want)
		}
	}
}

// P2.2: sealed bytes do not open with another key, another nonce or other bytes beside.
func TestOtherSurroundings(t *testing.T) {
	key, nonce, beside := exampleKey(), scrambled(12, 9), scrambled(40, 10)
	sealed := mustSeal(t, key, nonce, beside, scrambled(40, 11))
	check := func(what string, key api.Block, nonce, beside []byte) {
		t.Helper()
		got, e := Open(key, nonce, beside, sealed)
		checkOpen(t, what, got, e, nil, api.ErrTag)
	}
	for bit := range 128 {
		other := key
		other[bit/8] ^= 1 << (bit % 8)
		check("with another key", other, nonce, beside)
	}
	for bit := range 8 * len(nonce) {
		other := bytes.Clone(nonce)
		other[bit/8] ^= 1 << (bit % 8)
		check("with another nonce", key, other, beside)
	}
	for bit := range 8 * len(beside) {
		other := bytes.Clone(beside)
		other[bit/8] ^= 1 << (bit % 8)
		check("with other bytes beside", key, nonce, other)
	}
	check("with no bytes beside", key, nonce, nil)
	check("with fewer bytes beside", key, nonce, beside[:39])
	check("with a byte 128 more beside", key, nonce, append(bytes.Clone(beside), 128))
}

// P2.2: what is left over is filled up such that no longer text seals as a shorter one does, plain or beside.
func TestFillingUpTellsLengths(t *testing.T) {
	key, nonce := exampleKey(), []byte{1}
	seen := map[string]int{}
	for size := range 17 {
		text := append([]byte{128}, make([]byte, 16)...)[:size]
		sealed := mustSeal(t, key, nonce, text, nil)
		if other, ok := seen[string(sealed)]; ok {
			t.Errorf("%d and %d bytes beside seal alike", other, size)
		}
		seen[string(sealed)] = size
	}
}

// P2.1: the same bytes, as many, whatever they are.
func TestSame(t *testing.T) {
	for _, c := range []struct {
		a, b []byte
		want bool
	}{
		{nil, nil, true},
		{nil, []byte{}, true},
		{[]byte{1, 2}, []byte{1, 2}, true},
		{[]byte{1}, nil, false},
		{nil, []byte{0}, false},
		{[]byte{0}, nil, false},
		{[]byte{0}, []byte{0, 0}, false},
		{[]byte{1, 2, 3}, []byte{1, 2}, false},
		{[]byte{1, 2}, []byte{2, 1}, false},
		// The differences of these have each bit twice: together they are no nought.
		{[]byte{1, 1}, []byte{0, 0}, false},
		{[]byte{255, 255}, []byte{0, 0}, false},
	} {
		if got := Same(c.a, c.b); got != c.want {
			t.Errorf("Same(%x, %x) = %v", c.a, c.b, got)
		}
	}
	whole := scrambled(33, 12)
	for bit := range 8 * len(whole) {
		other := bytes.Clone(whole)
		if !Same(whole, other) {
			t.Fatalf("Same(%x, its copy) is false", whole)
		}
		other[bit/8] ^= 1 << (bit % 8)
		if Same(whole, other) {
			t.Errorf("Same(%x, %x) is true", whole, other)
		}
	}
}

// fastest is the least time that Same took in some calls.
func fastest(a, b []byte) time.Duration {
	least := time.Hour
	for range 20 {
		start := time.Now()
		Same(a, b)
		least = min(least, time.Since(start))
	}
	return least
}

// P2.1: Same looks at just as much, whatever the bytes are. A call that ended at the first difference would be some thousand times faster than one over like bytes: a twentieth is far from both.
func TestSameLooksAtAll(t *testing.T) {
	a := scrambled(1<<20, 13)
	b := bytes.Clone(a)
	like := fastest(a, b)
	b[0] ^= 1
	if unlike := fastest(a, b); unlike < like/20 {
		t.Errorf("like bytes take %v, bytes with another first one %v", like, unlike)
	}
}

// P2.1: the examples of the chapter, and each bit.
func TestDouble(t *testing.T) {
	if got := Double(api.Block{0: 0x80}); got != (api.Block{15: 0x87}) {
		t.Errorf("Double(80 00 ..) = %x", got)
	}
	if got := Double(api.Block{}); got != (api.Block{}) {
		t.Errorf("Double of noughts = %x", got)
	}
	var ones api.Block
	for i := range ones {
		ones[i] = 255
	}
	for bit := range 128 {
		one, not := api.Block{}, ones
		one[bit/8] ^= 0x80 >> (bit % 8)
		not[bit/8] ^= 0x80 >> (bit % 8)
		for _, b := range []api.Block{one, not, api.Block(scrambled(16, uint64(bit)))} {
			if got, want := Double(b), slowDouble(b); got != want {
				t.Errorf("Double(%x) = %x, want %x", b, got, want)
			}
		}
	}
}

// roomy is the bytes with room behind them that has bytes, too.
func roomy(b []byte) []byte {
	whole := append(bytes.Clone(b), scrambled(40, 14)...)
	return whole[:len(b)]
}

// Rule 5: what is handed in stays as it is, the room behind its end too, and no answer shares memory with it.
func TestArgumentsAndAnswersAreApart(t *testing.T) {
	key := exampleKey()
	for _, size := range sizes() {
		nonce, beside, plain := roomy([]byte{1, 2}), roomy(scrambled(size, 15)), roomy(scrambled(size, 16))
		args := [][]byte{nonce, beside, plain}
		var before [][]byte
		for _, a := range args {
			before = append(before, bytes.Clone(a[:cap(a)]))
		}
		answer := mustSeal(t, key, nonce, beside, plain)
		sealed := roomy(answer)
		args, before = append(args, sealed), append(before, bytes.Clone(sealed[:cap(sealed)]))
		opened, _ := Open(key, nonce, beside, sealed)
		again, _ := Open(key, nonce, beside, sealed)
		for i, a := range args {
			if !bytes.Equal(a[:cap(a)], before[i]) {
				t.Fatalf("the argument %d was changed", i)
			}
			clear(a[:cap(a)])
		}
		if !bytes.Equal(answer, before[3][:size+16]) || !bytes.Equal(opened, before[2][:size]) {
			t.Fatalf("an answer of %d bytes shares memory with an argument", size)
		}
		clear(opened[:cap(opened)])
		if !bytes.Equal(again, before[2][:size]) {
			t.Fatalf("two answers of %d bytes share memory", size)
		}
	}
}

// Rule 4: no list is as an empty one.
func TestNoListIsAsAnEmptyOne(t *testing.T) {
	none := []byte{}
	a, b := mustSeal(t, exampleKey(), []byte{1}, nil, nil), mustSeal(t, exampleKey(), []byte{1}, none, none)
	if !bytes.Equal(a, b) {
		t.Errorf("Seal of nil = %x, of nothing %x", a, b)
	}
	if _, e := Open(exampleKey(), []byte{1}, none, a); e != api.OK {
		t.Errorf("Open with nothing beside: %v", e)
	}
}

func BenchmarkSeal(b *testing.B) {
	plain := scrambled(1400, 17)
	b.SetBytes(int64(len(plain)))
	for range b.N {
		Seal(api.Block{}, []byte{1}, nil, plain)
	}
}
