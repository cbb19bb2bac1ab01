package deflate

import (
	"wayfarer/api"
	"wayfarer/bits"
	"wayfarer/huff"
	"wayfarer/inflate"
)

const (
	endSymbol   = 256 // ends a block
	firstLength = endSymbol + 1
	lastLength  = 285
	lengthRow   = 4 // symbols of one number of extra bits
	distanceRow = 2
	fixedHead   = 1 | 1<<1 // the last block, of the kind 1
	ownHead     = 1 | 2<<1
	headSize    = 3
)

// way is how one block tells tokens: what comes ahead of them, and the codes.
type way struct {
	head               []api.Bits
	symbols, distances []api.Bits
}

// fixedWay is the way of a block that tells no lengths of its own.
func fixedWay() way {
	symbols, distances := inflate.Fixed()
	return newWay([]api.Bits{{Value: fixedHead, Size: headSize}}, symbols, distances)
}

// newWay is a way with the codes of such lengths.
func newWay(head []api.Bits, symbols, distances []int) way {
	w := way{head: head}
	w.symbols, _ = huff.Codes(symbols)
	w.distances, _ = huff.Codes(distances)
	return w
}

// tell puts the bits of a block that tells tokens, one after the other.
func (w way) tell(tokens []api.Token, put func(api.Bits)) {
	for _, x := range w.head {
		put(x)
	}
	for _, token := range tokens {
		if token.Length == 0 {
			put(w.symbols[token.Byte])
			continue
		}
		symbol, extra := lengthSymbol(token.Length)
		put(w.symbols[symbol])
		put(extra)
		symbol, extra = distanceSymbol(token.Distance)
		put(w.distances[symbol])
		put(extra)
	}
	put(w.symbols[endSymbol])
}

// size is how many bytes the block is written into.
func (w way) size(tokens []api.Token) int {
	count := 0
	w.tell(tokens, func(x api.Bits) { count += x.Size })
	return (count + 7) >> 3
}

// write is the stream of the block alone.
func (w way) write(tokens []api.Token) ([]byte, api.Errno) {
	var l []api.Bits
	w.tell(tokens, func(x api.Bits) { l = append(l, x) })
	return bits.Write(l...)
}

// shortest is the way in which a block that tells tokens has the fewest bytes, and how many; the first one of such.
func shortest(tokens []api.Token, first way, others ...way) (way, int) {
	best, least := first, first.size(tokens)
	for _, w := range others {
		if size := w.size(tokens); size < least {
			best, least = w, size
		}
	}
	return best, least
}

// lengthSymbol is the symbol of a length, and its extra bits.
func lengthSymbol(length int) (int, api.Bits) {
	// The greatest length has a symbol for itself, outside of the rule.
	if length == mostLength {
		return lastLength, api.Bits{}
	}
	n, extra := nth(length-leastLength, lengthRow)
	return firstLength + n, extra
}

// distanceSymbol is the symbol of a distance, and its extra bits.
func distanceSymbol(distance int) (int, api.Bits) {
	return nth(distance-1, distanceRow)
}

// nth is which symbol stands for a number, and its extra bits, where each row of so many symbols has one extra bit more than the row ahead of it, but the second one. As all rows ahead together span as much as the row itself, what is left of the number without its extra bits is from one row to two.
func nth(number, row int) (int, api.Bits) {
	size := 0
	for number>>uint(size) >= 2*row {
		size++
	}
	kept := number >> uint(size)
	return row*size + kept, api.Bits{Value: uint64(number - kept<<uint(size)), Size: size}
}
