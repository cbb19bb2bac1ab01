package ocb

import (
	stdaes "crypto/aes"
	"math/big"
	"testing"

	"wayfarer/api"
)

// slow is the document's words over numbers without an end, with the library's cipher.
type slow struct {
	t   *testing.T
	key api.Block
}

// all is 2^128 - 1.
func all() *big.Int {
	n := new(big.Int).Lsh(big.NewInt(1), 128)
	return n.Sub(n, big.NewInt(1))
}

func number(b api.Block) *big.Int { return new(big.Int).SetBytes(b[:]) }

func blockOf(n *big.Int) (b api.Block) {
	n.FillBytes(b[:])
	return b
}

func slowDouble(b api.Block) api.Block {
	n := new(big.Int).Lsh(number(b), 1)
	if n.Bit(128) == 1 {
		n.Xor(n.And(n, all()), big.NewInt(0x87))
	}
	return blockOf(n)
}

func slowXor(a, b api.Block) api.Block {
	return blockOf(new(big.Int).Xor(number(a), number(b)))
}

func (s slow) e(b api.Block) api.Block {
	s.t.Helper()
	c, err := stdaes.NewCipher(s.key[:])
	if err != nil {
		s.t.Fatal(err)
	}
	c.Encrypt(b[:], b[:])
	return b
}

// l is L* (-2), L$ (-1), L0 (0) and so on.
func (s slow) l(i int) api.Block {
	b := s.e(api.Block{})
	for range i + 2 {
		b = slowDouble(b)
	}
	return b
}

func ntz(i int) int {
	n := 0
	for ; i%2 == 0; i /= 2 {
		n++
	}
	return n
}

func (s slow) beginning(nonce []byte) api.Block {
	n := new(big.Int).SetBytes(nonce)
	n.SetBit(n, 8*len(nonce), 1)
	place := uint(n.Uint64() % 64)
	for i := range 6 {
		n.SetBit(n, i, 0)
	}
	k := s.e(blockOf(n))
	stretched := k[:]
	for i := range 8 {
		stretched = append(stretched, k[i]^k[i+1])
	}
	wide := new(big.Int).SetBytes(stretched)
	wide.Rsh(wide, 64-place)
	return blockOf(wide.And(wide, all()))
}

func slowFill(rest []byte) (b api.Block) {
	copy(b[:], append(append([]byte{}, rest...), 128))
	return b
}

func (s slow) digest(beside []byte) api.Block {
	var o, d api.Block
	i := 1
	for ; 16*i <= len(beside); i++ {
		o = slowXor(o, s.l(ntz(i)))
		d = slowXor(d, s.e(slowXor(api.Block(beside[16*i-16:]), o)))
	}
	if rest := beside[16*i-16:]; len(rest) > 0 {
		o = slowXor(o, s.l(-2))
		d = slowXor(d, s.e(slowXor(slowFill(rest), o)))
	}
	return d
}

func (s slow) seal(nonce, beside, plain []byte) []byte {
	o, c := s.beginning(nonce), api.Block{}
	out := []byte{}
	i := 1
	for ; 16*i <= len(plain); i++ {
		o = slowXor(o, s.l(ntz(i)))
		p := api.Block(plain[16*i-16:])
		c = slowXor(c, p)
		b := slowXor(s.e(slowXor(p, o)), o)
		out = append(out, b[:]...)
	}
	if rest := plain[16*i-16:]; len(rest) > 0 {
		o = slowXor(o, s.l(-2))
		pad := s.e(o)
		for n := range rest {
			out = append(out, rest[n]^pad[n])
		}
		c = slowXor(c, slowFill(rest))
	}
	tag := slowXor(s.e(slowXor(slowXor(c, o), s.l(-1))), s.digest(beside))
	return append(out, tag[:]...)
}
