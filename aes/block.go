package aes

import "wayfarer/api"

// expand is the round keys of a key.
func expand(key api.Block, subs *[256]byte) [rounds + 1]api.Block {
	var words [4 * (rounds + 1)]uint32
	power := byte(1)
	for i := range words {
		if i < 4 {
			words[i] = join(key[4*i], key[4*i+1], key[4*i+2], key[4*i+3])
			continue
		}
		t := words[i-1]
		if i%4 == 0 {
			t = join(subs[byte(t>>16)]^power, subs[byte(t>>8)], subs[byte(t)], subs[byte(t>>24)])
			power = double(power)
		}
		words[i] = words[i-4] ^ t
	}
	var keys [rounds + 1]api.Block
	for i, w := range words {
		for n := range 4 {
			keys[i/4][i%4*4+n] = byte(w >> (24 - 8*n))
		}
	}
	return keys
}

// join is the word of four bytes, the first one highest.
func join(a, b, c, d byte) uint32 {
	return uint32(a)<<24 | uint32(b)<<16 | uint32(c)<<8 | uint32(d)
}

// against is the exclusive or of two blocks.
func against(a, b api.Block) api.Block {
	for i := range a {
		a[i] ^= b[i]
	}
	return a
}

// replace is the block with each byte replaced by what the table has for it.
func replace(b api.Block, table *[256]byte) api.Block {
	for i := range b {
		b[i] = table[b[i]]
	}
	return b
}

// turnRows is the block with the row n moved round to the left by n times so many places.
func turnRows(b api.Block, places int) api.Block {
	var turned api.Block
	for i := range turned {
		row := i % 4
		turned[i] = b[(i+4*row*places)%16]
	}
	return turned
}

// mix is the block with each column replaced as a round asks for.
func mix(b api.Block) api.Block {
	for i := 0; i < 16; i += 4 {
		first, all := b[i], b[i]^b[i+1]^b[i+2]^b[i+3]
		// 2 a0 + 3 a1 + a2 + a3 is a0 + the sum of all + 2 (a0 + a1): one doubling a byte is enough.
		b[i] ^= all ^ double(b[i]^b[i+1])
		b[i+1] ^= all ^ double(b[i+1]^b[i+2])
		b[i+2] ^= all ^ double(b[i+2]^b[i+3])
		b[i+3] ^= all ^ double(b[i+3]^first)
	}
	return b
}

// unmix is the block that mix makes b of.
func unmix(b api.Block) api.Block {
	// Mixing four times is as not mixing at all, and mixing twice is 5 a0 + 4 a2 for a0, and so on round the column: with that, one mix more takes the first one back.
	for i := 0; i < 16; i += 4 {
		even := double(double(b[i] ^ b[i+2]))
		odd := double(double(b[i+1] ^ b[i+3]))
		b[i] ^= even
		b[i+1] ^= odd
		b[i+2] ^= even
		b[i+3] ^= odd
	}
	return mix(b)
}
