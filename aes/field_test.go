package aes

import "testing"

// slowTimes is the product by the document's words, otherwise than Times finds it: a is doubled step by step, each step brought back into the field.
func slowTimes(a, b byte) byte {
	sum, power := 0, int(a)
	for n := int(b); n > 0; n /= 2 {
		if n%2 == 1 {
			sum ^= power
		}
		if power *= 2; power >= 256 {
			power ^= 0x11b
		}
	}
	return byte(sum)
}

// slowSub is the substitute by the document's words, bit by bit.
func slowSub(b byte) byte {
	c := 0
	for n := range 256 {
		if slowTimes(b, byte(n)) == 1 {
			c = n
		}
	}
	out := 0
	for i := range 8 {
		bit := 0x63 >> i & 1
		for _, n := range []int{0, 4, 5, 6, 7} {
			bit ^= c >> ((i + n) % 8) & 1
		}
		out |= bit << i
	}
	return byte(out)
}

// P1.1: the examples of the chapter, and others of FIPS 197.
func TestByteExamples(t *testing.T) {
	for b, want := range map[byte]byte{0x00: 0x63, 0x01: 0x7c, 0x53: 0xed, 0x52: 0x00, 0x80: 0xcd, 0xff: 0x16} {
		if got := Sub(b); got != want {
			t.Errorf("Sub(%02x) = %02x, want %02x", b, got, want)
		}
		if got := Unsub(want); got != b {
			t.Errorf("Unsub(%02x) = %02x, want %02x", want, got, b)
		}
	}
	for pair, want := range map[[2]byte]byte{
		{0x57, 0x83}: 0xc1, {0x57, 0x13}: 0xfe, {0x57, 0x02}: 0xae, {0x57, 0x10}: 0x07,
		{0x53, 0xca}: 0x01, {0x00, 0xff}: 0x00, {0xff, 0x01}: 0xff, {0x80, 0x02}: 0x1b, {0xff, 0xff}: 0x13,
	} {
		if got := Times(pair[0], pair[1]); got != want {
			t.Errorf("Times(%02x, %02x) = %02x, want %02x", pair[0], pair[1], got, want)
		}
	}
}

// P1.1: Sub and Unsub at all bytes.
func TestSubOfAllBytes(t *testing.T) {
	for n := range 256 {
		b := byte(n)
		want := slowSub(b)
		if got := Sub(b); got != want {
			t.Errorf("Sub(%02x) = %02x, want %02x", b, got, want)
		}
		if got := Unsub(want); got != b {
			t.Errorf("Unsub(%02x) = %02x, want %02x", want, got, b)
		}
		if got := Sub(Unsub(b)); got != b {
			t.Errorf("Sub(Unsub(%02x)) = %02x", b, got)
		}
	}
}

// P1.1: Times at all pairs of bytes; its sums are exclusive ors.
func TestTimesOfAllPairs(t *testing.T) {
	for n := range 256 {
		for m := range 256 {
			a, b := byte(n), byte(m)
			got := Times(a, b)
			if want := slowTimes(a, b); got != want {
				t.Fatalf("Times(%02x, %02x) = %02x, want %02x", a, b, got, want)
			}
			if back := Times(b, a); back != got {
				t.Fatalf("Times(%02x, %02x) = %02x, turned about %02x", a, b, got, back)
			}
			if sum := Times(a, b^0x35) ^ Times(a, 0x35); sum != got {
				t.Fatalf("Times(%02x, ..) of a sum is %02x, want %02x", a, sum, got)
			}
		}
	}
}

// A round asks for doubles, not for products: both must be one.
func TestDoubleIsTimesTwo(t *testing.T) {
	for n := range 256 {
		if got, want := double(byte(n)), slowTimes(byte(n), 2); got != want {
			t.Errorf("double(%02x) = %02x, want %02x", n, got, want)
		}
	}
}
