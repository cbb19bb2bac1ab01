package ocb

import (
	"math/bits"

	"wayfarer/aes"
	"wayfarer/api"
)

// The ranks of the document's L's: each one is the double of the one ahead of it, so one list has them all.
const (
	star   = 0 // L*
	dollar = 1 // L$
	first  = 2 // L0
)

// mask answers the L of a rank.
type mask func(rank int) api.Block

// masks is the L's of a key, each made when it is first asked for.
func masks(key api.Block) mask {
	made := []api.Block{aes.Encrypt(key, api.Block{})}
	return func(rank int) api.Block {
		for len(made) <= rank {
			made = append(made, Double(made[len(made)-1]))
		}
		return made[rank]
	}
}

// rankOf is the rank of the L that moves the offset to the i-th full block.
func rankOf(i int) int {
	return first + bits.TrailingZeros(uint(i))
}

// Double is the double of a block.
func Double(b api.Block) api.Block {
	high, low := split(b)
	fallen := high >> 63
	return join(high<<1|low>>63, low<<1^fallen*0x87)
}

// beginning is the first offset that a nonce of 1 to 15 bytes gives.
func beginning(key api.Block, nonce []byte) api.Block {
	var n api.Block
	ahead := blockSize - len(nonce)
	n[ahead-1] = 1
	copy(n[ahead:], nonce)
	place := n[blockSize-1] & 63
	n[blockSize-1] &^= 63
	high, low := split(aes.Encrypt(key, n))
	behind := high ^ (high<<8 | low>>56)
	// At the place 0 the second shifts are by all 64 bits, and nothing comes in from behind.
	return join(high<<place|low>>(64-place), low<<place|behind>>(64-place))
}

// cut is the first block of at least sixteen bytes, and what is behind it.
func cut(text []byte) (api.Block, []byte) {
	return api.Block(text[:blockSize:blockSize]), text[blockSize:len(text):len(text)]
}

// filledUp is the block of fewer than sixteen bytes, a byte 128 and noughts.
func filledUp(rest []byte) api.Block {
	var b api.Block
	b[copy(b[:], rest)] = 128
	return b
}

// against is the exclusive or of two blocks.
func against(a, b api.Block) api.Block {
	for i := range a {
		a[i] ^= b[i]
	}
	return a
}

// split is the two halves of a block as numbers, the first byte of each highest.
func split(b api.Block) (high, low uint64) {
	for i := range 8 {
		high = high<<8 | uint64(b[i])
		low = low<<8 | uint64(b[i+8])
	}
	return high, low
}

// join is the block of two halves.
func join(high, low uint64) api.Block {
	var b api.Block
	for i := range 8 {
		b[i] = byte(high >> (56 - 8*i))
		b[i+8] = byte(low >> (56 - 8*i))
	}
	return b
}
