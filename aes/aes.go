// Package aes is layer 1: see shared/doc/01-aes.md.
package aes

import "wayfarer/api"

// rounds is how many rounds a block goes through; there is one round key more.
const rounds = 10

// Sub is b substituted.
func Sub(b byte) byte {
	return substitutes()[b]
}

// Unsub is the byte of which b is the substitute.
func Unsub(b byte) byte {
	subs := substitutes()
	return origins(&subs)[b]
}

// Expand is the round keys of a key, from 0 on.
func Expand(key api.Block) [11]api.Block {
	subs := substitutes()
	return expand(key, &subs)
}

// Encrypt is the block b encrypted with a key.
func Encrypt(key, b api.Block) api.Block {
	subs := substitutes()
	keys := expand(key, &subs)
	b = against(b, keys[0])
	for round := 1; round <= rounds; round++ {
		b = turnRows(replace(b, &subs), 1)
		if round < rounds {
			b = mix(b)
		}
		b = against(b, keys[round])
	}
	return b
}

// Decrypt is the block that Encrypt makes b of.
func Decrypt(key, b api.Block) api.Block {
	subs := substitutes()
	keys := expand(key, &subs)
	back := origins(&subs)
	for round := rounds; round >= 1; round-- {
		b = against(b, keys[round])
		if round < rounds {
			b = unmix(b)
		}
		// Three places to the left are one back to the right, as a row has four.
		b = replace(turnRows(b, 3), &back)
	}
	return against(b, keys[0])
}
