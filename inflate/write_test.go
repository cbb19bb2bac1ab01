package inflate

import (
	"strings"

	"wayfarer/huff"
)

// Streams that the tests make, as texts of the characters 0 and 1.

// number is so many bits of a number, the lowest one first.
func number(value, size int) string {
	text := ""
	for range size {
		text += string(rune('0' + value%2))
		value /= 2
	}
	return text
}

// packed is a text as bytes; the bits left in the last one are 0, or 1 if they are to be filled.
func packed(text string, fill byte) []byte {
	for len(text)%8 != 0 {
		text += string(rune('0' + fill))
	}
	b := make([]byte, len(text)/8)
	for i, c := range text {
		b[i/8] |= byte(c-'0') << (i % 8)
	}
	return b
}

// unpacked is the bits of bytes.
func unpacked(b []byte) string {
	var text strings.Builder
	for _, c := range b {
		text.WriteString(number(int(c), 8))
	}
	return text.String()
}

// head begins a block of a kind.
func head(last bool, kind int) string {
	if last {
		return "1" + number(kind, 2)
	}
	return "0" + number(kind, 2)
}

// storedBlock is bytes as they are, behind a text.
func storedBlock(ahead string, last bool, b []byte) string {
	text := ahead + head(last, 0)
	for len(text)%8 != 0 {
		text += "0"
	}
	return text + number(len(b), 16) + number(65535-len(b), 16) + unpacked(b)
}

// coder writes symbols by lengths.
type coder struct{ symbols, distances []string }

func newCoder(symbols, distances []int) coder {
	return coder{codeTexts(symbols), codeTexts(distances)}
}

func fixedCoder() coder { return newCoder(slowFixed()) }

func codeTexts(lengths []int) []string {
	l, e := huff.Codes(lengths)
	if e != 0 {
		panic(e)
	}
	out := make([]string, len(l))
	for i, code := range l {
		out[i] = number(int(code.Value), code.Size)
	}
	return out
}

// bytes is bytes as single symbols.
func (c coder) bytes(b []byte) string {
	var text strings.Builder
	for _, x := range b {
		text.WriteString(c.symbols[x])
	}
	return text.String()
}

// piece is a length and a distance.
func (c coder) piece(length, distance int) string {
	return c.length(length) + c.distance(distance)
}

func (c coder) length(length int) string {
	s, extra, size := find(slowLengths(), length)
	return c.symbols[257+s] + number(extra, size)
}

func (c coder) distance(distance int) string {
	s, extra, size := find(slowDistances(), distance)
	return c.distances[s] + number(extra, size)
}

// find is the last row of a table that a number is in, with its extra bits.
func find(table [][2]int, n int) (row, extra, size int) {
	for i, x := range table {
		if x[0] <= n {
			row, extra, size = i, n-x[0], x[1]
		}
	}
	return row, extra, size
}

func (c coder) end() string { return c.symbols[256] }

// kindOrder is the order in which the lengths of the nineteen are told.
func kindOrder() []int {
	return []int{16, 17, 18, 0, 8, 7, 9, 6, 10, 5, 11, 4, 12, 3, 13, 2, 14, 1, 15}
}

// dynamicHead is a dynamic block up to its row: so many lengths of symbols and of distances, and the lengths of the first so many of the nineteen.
func dynamicHead(last bool, symbols, distances, told int, kinds []int) string {
	text := head(last, 2) + number(symbols-257, 5) + number(distances-1, 5) + number(told-4, 4)
	for _, symbol := range kindOrder()[:told] {
		text += number(kinds[symbol], 3)
	}
	return text
}

// plainKinds is whole lengths of all nineteen.
func plainKinds() []int {
	return []int{4, 4, 4, 4, 4, 4, 4, 4, 4, 4, 4, 4, 4, 5, 5, 5, 5, 5, 5}
}

// dynamicLengths is a dynamic block up to its symbols, each length told by itself.
func dynamicLengths(last bool, symbols, distances []int) string {
	codes := codeTexts(plainKinds())
	text := dynamicHead(last, len(symbols), len(distances), 19, plainKinds())
	for _, lengths := range [][]int{symbols, distances} {
		for _, length := range lengths {
			text += codes[length]
		}
	}
	return text
}

// nothing is a stream's beginning that tells no bytes and ends so many places within a byte.
func nothing(within int) string {
	fixed := head(false, 1) + "0000000"
	text := ""
	if within%2 == 1 {
		// The lengths of 256 and 257 and of one distance are told by 1 (the code 0), the noughts ahead by 18 (the code 1).
		kinds := make([]int, 19)
		kinds[1], kinds[18] = 1, 1
		text = dynamicHead(false, 258, 1, 18, kinds) + "1" + number(127, 7) + "1" + number(107, 7) + "000" + "0"
	}
	for len(text)%8 != within {
		text += fixed
	}
	return text
}
