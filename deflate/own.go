package deflate

import (
	"wayfarer/api"
	"wayfarer/huff"
)

const (
	allSymbols    = lastLength + 1
	allDistances  = 30
	fewestSymbols = firstLength // lengths that a block tells at the least
	fewestKinds   = 4
	allKinds      = 19
	mostBits      = 15 // of a code
	mostKindBits  = 7  // of the code of a kind
	sayAgain      = 16 // tells the length ahead again
	fewNoughts    = 17
	manyNoughts   = 18
)

// word is a kind of telling lengths, and its extra bits.
type word struct {
	kind  int
	extra api.Bits
}

// ownWay is the way of a block with the lengths that are the best for tokens.
func ownWay(tokens []api.Token) way {
	symbolCounts, distanceCounts := counts(tokens)
	symbols, _ := huff.Lengths(symbolCounts, mostBits)
	distances, _ := huff.Lengths(distanceCounts, mostBits)
	symbols, distances = trimmed(symbols, fewestSymbols), trimmed(distances, 1)
	head := []api.Bits{
		{Value: ownHead, Size: headSize},
		{Value: uint64(len(symbols) - fewestSymbols), Size: 5},
		{Value: uint64(len(distances) - 1), Size: 5},
	}
	row := append(append([]int{}, symbols...), distances...)
	return newWay(append(head, spelled(words(row))...), symbols, distances)
}

// counts is how often each symbol and each distance comes, the end too.
func counts(tokens []api.Token) (symbols, distances []int) {
	symbols, distances = make([]int, allSymbols), make([]int, allDistances)
	for _, token := range tokens {
		if token.Length == 0 {
			symbols[token.Byte]++
			continue
		}
		symbol, _ := lengthSymbol(token.Length)
		symbols[symbol]++
		symbol, _ = distanceSymbol(token.Distance)
		distances[symbol]++
	}
	symbols[endSymbol]++
	return symbols, distances
}

// trimmed is lengths without the noughts at their end, but at least so many.
func trimmed(lengths []int, fewest int) []int {
	count := len(lengths)
	for count > fewest && lengths[count-1] == 0 {
		count--
	}
	return lengths[:count]
}

// spelled is words as bits, with the lengths of the kinds ahead of them.
func spelled(l []word) []api.Bits {
	kindCounts := make([]int, allKinds)
	for _, w := range l {
		kindCounts[w.kind]++
	}
	kinds, _ := huff.Lengths(kindCounts, mostKindBits)
	codes, _ := huff.Codes(kinds)
	told := trimmed(ordered(kinds), fewestKinds)
	out := []api.Bits{{Value: uint64(len(told) - fewestKinds), Size: 4}}
	for _, length := range told {
		out = append(out, api.Bits{Value: uint64(length), Size: 3})
	}
	for _, w := range l {
		out = append(out, codes[w.kind], w.extra)
	}
	return out
}

// ordered is the lengths of the kinds in the order in which a stream has them.
func ordered(kinds []int) []int {
	order := [allKinds]int{16, 17, 18, 0, 8, 7, 9, 6, 10, 5, 11, 4, 12, 3, 13, 2, 14, 1, 15}
	out := make([]int, allKinds)
	for i, kind := range order {
		out[i] = kinds[kind]
	}
	return out
}

// words is a row of lengths, told in few words.
func words(row []int) []word {
	var out []word
	for at := 0; at < len(row); {
		w, told := nextWord(row, at)
		out = append(out, w)
		at += told
	}
	return out
}

// nextWord is the word for the lengths from a place of the row on, and how many of them it tells.
func nextWord(row []int, at int) (word, int) {
	same := run(row, at)
	switch {
	case row[at] == 0 && same >= 11:
		told := min(same, 138)
		return word{manyNoughts, api.Bits{Value: uint64(told - 11), Size: 7}}, told
	case row[at] == 0 && same >= 3:
		return word{fewNoughts, api.Bits{Value: uint64(same - 3), Size: 3}}, same
	case at > 0 && row[at] == row[at-1] && same >= 3:
		told := min(same, 6)
		return word{sayAgain, api.Bits{Value: uint64(told - 3), Size: 2}}, told
	}
	return word{kind: row[at]}, 1
}

// run is how many lengths from a place of the row on are the same.
func run(row []int, at int) int {
	end := at
	for end < len(row) && row[end] == row[at] {
		end++
	}
	return end - at
}
