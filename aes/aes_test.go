package aes

import (
	stdaes "crypto/aes"
	"encoding/hex"
	"testing"

	"wayfarer/api"
)

// block is the block of 32 hexadecimal digits.
func block(t *testing.T, digits string) api.Block {
	t.Helper()
	b, err := hex.DecodeString(digits)
	if err != nil || len(b) != 16 {
		t.Fatalf("no block: %q", digits)
	}
	return api.Block(b)
}

// filled is the block of sixteen times the same byte.
func filled(by byte) api.Block {
	var b api.Block
	for i := range b {
		b[i] = by
	}
	return b
}

// edges is blocks at the edges: all bytes 0, all bytes 255, one bit set, one bit not set.
func edges() []api.Block {
	list := []api.Block{filled(0), filled(255)}
	for bit := range 128 {
		one, not := filled(0), filled(255)
		one[bit/8] ^= 0x80 >> (bit % 8)
		not[bit/8] ^= 0x80 >> (bit % 8)
		list = append(list, one, not)
	}
	return list
}

// scrambled is so many blocks with no order to be seen, the same ones each time.
func scrambled(count int) []api.Block {
	list := make([]api.Block, count)
	state := uint64(1)
	for i := range list {
		for n := range list[i] {
			state = state*6364136223846793005 + 1442695040888963407
			list[i][n] = byte(state >> 56)
		}
	}
	return list
}

// slowExpand is the round keys by the document's words, word by word.
func slowExpand(key api.Block) [11]api.Block {
	var w [44][4]byte
	for i := range w {
		if i < 4 {
			w[i] = [4]byte(key[4*i : 4*i+4])
			continue
		}
		t := w[i-1]
		if i%4 == 0 {
			t = [4]byte{slowSub(t[1]), slowSub(t[2]), slowSub(t[3]), slowSub(t[0])}
			r := byte(1)
			for range i/4 - 1 {
				r = slowTimes(r, 2)
			}
			t[0] ^= r
		}
		for n := range t {
			w[i][n] = w[i-4][n] ^ t[n]
		}
	}
	var keys [11]api.Block
	for i := range w {
		copy(keys[i/4][i%4*4:], w[i][:])
	}
	return keys
}

// P1.1: the round keys of FIPS 197 (A.1), and of the keys of noughts and of ones.
func TestExpandExamples(t *testing.T) {
	for _, c := range []struct{ key, first, last string }{
		{"2b7e151628aed2a6abf7158809cf4f3c", "a0fafe1788542cb123a339392a6c7605", "d014f9a8c9ee2589e13f0cc8b6630ca6"},
		{"000102030405060708090a0b0c0d0e0f", "d6aa74fdd2af72fadaa678f1d6ab76fe", "13111d7fe3944a17f307a78b4d2b30c5"},
		{"00000000000000000000000000000000", "62636363626363636263636362636363", "b4ef5bcb3e92e21123e951cf6f8f188e"},
		{"ffffffffffffffffffffffffffffffff", "e8e9e9e917161616e8e9e9e917161616", "d60a3588e472f07b82d2d7858cd7c326"},
	} {
		key := block(t, c.key)
		keys := Expand(key)
		if keys[0] != key || keys[1] != block(t, c.first) || keys[10] != block(t, c.last) {
			t.Errorf("Expand(%s) = %x", c.key, keys)
		}
	}
}

// P1.1: all eleven round keys, at the edges and elsewhere.
func TestExpandOfManyKeys(t *testing.T) {
	for _, key := range append(edges(), scrambled(20)...) {
		if got, want := Expand(key), slowExpand(key); got != want {
			t.Fatalf("Expand(%x) = %x, want %x", key, got, want)
		}
	}
}

// P1.2: the examples of the chapter, and known answers at the edges.
func TestBlockExamples(t *testing.T) {
	for _, c := range []struct{ key, plain, hidden string }{
		{"000102030405060708090a0b0c0d0e0f", "00112233445566778899aabbccddeeff", "69c4e0d86a7b0430d8cdb78070b4c55a"},
		{"2b7e151628aed2a6abf7158809cf4f3c", "3243f6a8885a308d313198a2e0370734", "3925841d02dc09fbdc118597196a0b32"},
		{"00000000000000000000000000000000", "00000000000000000000000000000000", "66e94bd4ef8a2c3b884cfa59ca342b2e"},
		{"00000000000000000000000000000000", "80000000000000000000000000000000", "3ad78e726c1ec02b7ebfe92b23d9ec34"},
		{"80000000000000000000000000000000", "00000000000000000000000000000000", "0edd33d3c621e546455bd8ba1418bec8"},
		{"00000000000000000000000000000000", "ffffffffffffffffffffffffffffffff", "3f5b8cc9ea855a0afa7347d23e8d664e"},
		{"ffffffffffffffffffffffffffffffff", "00000000000000000000000000000000", "a1f6258c877d5fcd8964484538bfc92c"},
	} {
		key, plain, hidden := block(t, c.key), block(t, c.plain), block(t, c.hidden)
		if got := Encrypt(key, plain); got != hidden {
			t.Errorf("Encrypt(%s, %s) = %x, want %s", c.key, c.plain, got, c.hidden)
		}
		if got := Decrypt(key, hidden); got != plain {
			t.Errorf("Decrypt(%s, %s) = %x, want %s", c.key, c.hidden, got, c.plain)
		}
	}
}

// checkAgainstLibrary holds Encrypt and Decrypt against the library's cipher.
func checkAgainstLibrary(t *testing.T, key, b api.Block) {
	t.Helper()
	cipher, err := stdaes.NewCipher(key[:])
	if err != nil {
		t.Fatal(err)
	}
	var want api.Block
	cipher.Encrypt(want[:], b[:])
	if got := Encrypt(key, b); got != want {
		t.Fatalf("Encrypt(%x, %x) = %x, want %x", key, b, got, want)
	}
	cipher.Decrypt(want[:], b[:])
	if got := Decrypt(key, b); got != want {
		t.Fatalf("Decrypt(%x, %x) = %x, want %x", key, b, got, want)
	}
}

// P1.2: keys and blocks at the edges, and elsewhere.
func TestBlocksAgainstLibrary(t *testing.T) {
	plain := scrambled(300)
	for i, e := range edges() {
		checkAgainstLibrary(t, e, e)
		checkAgainstLibrary(t, e, plain[i])
		checkAgainstLibrary(t, plain[i], e)
		checkAgainstLibrary(t, e, filled(0))
		checkAgainstLibrary(t, filled(0), e)
		checkAgainstLibrary(t, e, filled(255))
		checkAgainstLibrary(t, filled(255), e)
	}
	for i, b := range plain {
		checkAgainstLibrary(t, plain[(i+1)%len(plain)], b)
	}
}

// P1.3: each of Encrypt and Decrypt takes back what the other one does.
func TestThereAndBack(t *testing.T) {
	keys := []api.Block{filled(0), filled(255), block(t, "00000000000000000000000000000001"), scrambled(1)[0]}
	for _, key := range keys {
		for _, b := range append(edges(), scrambled(50)...) {
			if got := Decrypt(key, Encrypt(key, b)); got != b {
				t.Fatalf("Decrypt(%x, Encrypt(.., %x)) = %x", key, b, got)
			}
			if got := Encrypt(key, Decrypt(key, b)); got != b {
				t.Fatalf("Encrypt(%x, Decrypt(.., %x)) = %x", key, b, got)
			}
		}
	}
}

// P1.3: two unlike blocks are encrypted unlike.
func TestUnlikeBlocksStayUnlike(t *testing.T) {
	for _, key := range []api.Block{filled(0), filled(255), block(t, "80000000000000000000000000000000")} {
		seen := map[api.Block]api.Block{}
		for _, b := range append(edges(), scrambled(200)...) {
			c := Encrypt(key, b)
			if other, ok := seen[c]; ok && other != b {
				t.Fatalf("with the key %x, both %x and %x are encrypted as %x", key, other, b, c)
			}
			seen[c] = b
		}
	}
}

// Rule 5: what is handed in stays as it is, and a call's answer hangs on nothing but what it was given.
func TestCallsKeepNothing(t *testing.T) {
	key, b := filled(7), filled(9)
	first := Encrypt(key, b)
	keys := Expand(key)
	keys[0] = filled(0)
	Encrypt(filled(255), filled(255))
	Decrypt(filled(1), filled(2))
	if key != filled(7) || b != filled(9) {
		t.Errorf("arguments were changed: %x, %x", key, b)
	}
	if got := Encrypt(key, b); got != first {
		t.Errorf("Encrypt again = %x, first %x", got, first)
	}
	if Expand(key)[0] != key {
		t.Errorf("Expand kept a change of its answer")
	}
}

func BenchmarkEncrypt(b *testing.B) {
	var x api.Block
	for range b.N {
		x = Encrypt(x, x)
	}
}

func BenchmarkDecrypt(b *testing.B) {
	var x api.Block
	for range b.N {
		x = Decrypt(x, x)
	}
}
