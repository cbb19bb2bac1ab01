package huff

import (
	"math"
	"slices"
	"strings"

	"wayfarer/api"
)

// What the document says, read word by word and slowly, for the answers to be held against. Codes are texts of the characters 0 and 1 here, in the order of a stream.

// slowWeight is the sum of 2^(15 - length) over all symbols that have a code.
func slowWeight(lengths []int) int {
	sum := 0.0
	for _, length := range lengths {
		if length > 0 {
			sum += math.Pow(2, float64(15-length))
		}
	}
	return int(sum)
}

// slowCodes is the codes of lengths that may be, "" for a symbol without one: symbol by symbol, the shorter ones and of one length the lesser ones first, the least number that no code ahead begins.
func slowCodes(lengths []int) []string {
	out := make([]string, len(lengths))
	var ahead []string
	for length := 1; length <= 15; length++ {
		number := 0
		for symbol, l := range lengths {
			if l != length {
				continue
			}
			for begins(ahead, slowText(number, length)) {
				number++
			}
			out[symbol] = slowText(number, length)
			ahead = append(ahead, out[symbol])
		}
	}
	return out
}

// begins is whether one of the codes begins a text.
func begins(codes []string, text string) bool {
	return slices.ContainsFunc(codes, func(code string) bool { return strings.HasPrefix(text, code) })
}

// slowText is so many bits of a number, the highest one first.
func slowText(number, size int) string {
	text := ""
	for range size {
		text = string(rune('0'+number%2)) + text
		number /= 2
	}
	return text
}

// slowBits is a code as Bits, whose lowest bit is the first one in a stream.
func slowBits(code string) api.Bits {
	value, one := uint64(0), uint64(1)
	for _, c := range code {
		if c == '1' {
			value += one
		}
		one *= 2
	}
	return api.Bits{Value: value, Size: len(code)}
}

// slowStream is the bits of bytes from a place on, each byte's lowest one first.
func slowStream(b []byte, at int) string {
	text := ""
	for _, c := range b {
		for range 8 {
			text += string(rune('0' + c%2))
			c /= 2
		}
	}
	return text[min(at, len(text)):]
}

// slowPack is bits as bytes, noughts behind the last one.
func slowPack(text string) []byte {
	b := make([]byte, (len(text)+7)/8)
	for i, c := range text {
		if c == '1' {
			b[i/8] += []byte{1, 2, 4, 8, 16, 32, 64, 128}[i%8]
		}
	}
	return b
}

// slowSymbol is what codes read of a stream.
func slowSymbol(codes []string, stream string) (symbol, size int, e api.Errno) {
	for i, code := range codes {
		if code != "" && strings.HasPrefix(stream, code) {
			return i, len(code), api.OK
		}
	}
	for _, code := range codes {
		if code != "" && strings.HasPrefix(code, stream) {
			return 0, 0, api.ErrShort
		}
	}
	return 0, 0, api.ErrForm
}

// slowLeast is the least cost of all lengths that may be, each from 1 to most for a symbol that comes, found by trying every one of them.
func slowLeast(counts []int, most int) int {
	least := -1
	lengths := make([]int, len(counts))
	var try func(i int)
	try = func(i int) {
		if i == len(counts) {
			cost := 0
			for k := range counts {
				cost += counts[k] * lengths[k]
			}
			if slowWeight(lengths) <= 32768 && (least < 0 || cost < least) {
				least = cost
			}
			return
		}
		if counts[i] == 0 {
			try(i + 1)
			return
		}
		for lengths[i] = 1; lengths[i] <= most; lengths[i]++ {
			try(i + 1)
		}
		lengths[i] = 0
	}
	try(0)
	return least
}

// slowBound is the same for many symbols: the lengths go down as the counts go up, so it is enough to choose, length by length, how many of the commonest ones that are left have it. What is kept is the least cost for so many symbols that have a code, with so many free codes of the length.
func slowBound(counts []int, most int) int {
	var falling []int
	for _, count := range counts {
		if count > 0 {
			falling = append(falling, count)
		}
	}
	slices.Sort(falling)
	slices.Reverse(falling)
	n := len(falling)
	behind := make([]int, n+1) // the sum of what has no code yet: each of them costs its count at every length passed
	for i := n - 1; i >= 0; i-- {
		behind[i] = behind[i+1] + falling[i]
	}
	const none = math.MaxInt
	cost := make([][]int, n+1)
	for i := range cost {
		cost[i] = slices.Repeat([]int{none}, n+1)
	}
	cost[0][min(1, n)] = 0
	for range most {
		next := make([][]int, n+1)
		for i := range next {
			next[i] = slices.Repeat([]int{none}, n+1)
		}
		for given := range n + 1 {
			for free := range n + 1 {
				if cost[given][free] == none {
					continue
				}
				now := min(2*free, n) // more free codes than symbols are never needed
				for more := 0; more <= now && given+more <= n; more++ {
					c := cost[given][free] + behind[given]
					next[given+more][now-more] = min(next[given+more][now-more], c)
				}
			}
		}
		cost = next
	}
	return slices.Min(cost[n])
}
