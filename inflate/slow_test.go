package inflate

import (
	"strings"

	"wayfarer/api"
	"wayfarer/huff"
)

// What the document says, read word by word and slowly, for the answers to be held against. Streams are texts of the characters 0 and 1 here, in the order of a stream.

// slowLengths and slowDistances are the tables of RFC 1951: base and extra bits, from the symbols 257 and 0 on.
func slowLengths() [][2]int {
	return [][2]int{{3, 0}, {4, 0}, {5, 0}, {6, 0}, {7, 0}, {8, 0}, {9, 0}, {10, 0}, {11, 1}, {13, 1}, {15, 1}, {17, 1}, {19, 2}, {23, 2}, {27, 2}, {31, 2}, {35, 3}, {43, 3}, {51, 3}, {59, 3}, {67, 4}, {83, 4}, {99, 4}, {115, 4}, {131, 5}, {163, 5}, {195, 5}, {227, 5}, {258, 0}}
}

func slowDistances() [][2]int {
	return [][2]int{{1, 0}, {2, 0}, {3, 0}, {4, 0}, {5, 1}, {7, 1}, {9, 2}, {13, 2}, {17, 3}, {25, 3}, {33, 4}, {49, 4}, {65, 5}, {97, 5}, {129, 6}, {193, 6}, {257, 7}, {385, 7}, {513, 8}, {769, 8}, {1025, 9}, {1537, 9}, {2049, 10}, {3073, 10}, {4097, 11}, {6145, 11}, {8193, 12}, {12289, 12}, {16385, 13}, {24577, 13}}
}

// slowFixed is the fixed lengths, symbol by symbol.
func slowFixed() (symbols, distances []int) {
	for symbol := range 288 {
		switch {
		case symbol <= 143:
			symbols = append(symbols, 8)
		case symbol <= 255:
			symbols = append(symbols, 9)
		case symbol <= 279:
			symbols = append(symbols, 7)
		default:
			symbols = append(symbols, 8)
		}
	}
	for range 30 {
		distances = append(distances, 5)
	}
	return symbols, distances
}

// slowStream is a stream that is read bit by bit; once something is wrong it stays so, and all that is read is 0.
type slowStream struct {
	text string
	at   int
	out  []byte
	most int
	e    api.Errno
}

// slowInflate is what a text of bits tells, how many of them it has, and what is wrong.
func slowInflate(text string, most int) ([]byte, int, api.Errno) {
	s := &slowStream{text: text, most: most}
	for s.e == api.OK {
		last := s.number(1)
		kind := s.number(2)
		switch {
		case s.e != api.OK:
		case kind == 0:
			s.stored()
		case kind == 1:
			s.symbols(slowFixed())
		case kind == 2:
			s.symbols(s.dynamic())
		default:
			s.wrong(api.ErrForm)
		}
		if last == 1 && s.e == api.OK {
			return s.out, s.at, api.OK
		}
	}
	return nil, 0, s.e
}

// wrong keeps the first error.
func (s *slowStream) wrong(e api.Errno) {
	if s.e == api.OK {
		s.e = e
	}
}

func (s *slowStream) number(size int) int {
	value, weight := 0, 1
	for range size {
		if s.at >= len(s.text) {
			s.wrong(api.ErrShort)
		}
		if s.e != api.OK {
			return 0
		}
		if s.text[s.at] == '1' {
			value += weight
		}
		weight *= 2
		s.at++
	}
	return value
}

func (s *slowStream) put(c byte) {
	if len(s.out) >= s.most {
		s.wrong(api.ErrLimit)
	}
	if s.e == api.OK {
		s.out = append(s.out, c)
	}
}

func (s *slowStream) stored() {
	for s.at%8 != 0 {
		s.at++
	}
	count, turned := s.number(16), s.number(16)
	if count+turned != 65535 {
		s.wrong(api.ErrForm)
	}
	for i := 0; i < count && s.e == api.OK; i++ {
		c := s.number(8)
		s.put(byte(c))
	}
}

// symbol reads a symbol: bits are taken until they are a code, or begin none.
func (s *slowStream) symbol(codes []string) int {
	begun := ""
	for s.e == api.OK {
		begins := false
		for symbol, code := range codes {
			if code != "" && code == begun {
				return symbol
			}
			begins = begins || code != "" && strings.HasPrefix(code, begun)
		}
		if !begins {
			s.wrong(api.ErrForm)
		} else if s.number(1) == 1 {
			begun += "1"
		} else {
			begun += "0"
		}
	}
	return 0
}

// codes is the codes of lengths, wrong if they may not be.
func (s *slowStream) codes(lengths []int) []string {
	l, e := huff.Codes(lengths)
	if e != api.OK {
		s.wrong(api.ErrForm)
	}
	out := make([]string, len(l))
	for i, code := range l {
		out[i] = number(int(code.Value), code.Size)
	}
	return out
}

func (s *slowStream) symbols(symbols, distances []int) {
	if s.e == api.OK && symbols[256] == 0 {
		s.wrong(api.ErrForm)
	}
	symbolCodes, distanceCodes := s.codes(symbols), s.codes(distances)
	for s.e == api.OK {
		symbol := s.symbol(symbolCodes)
		switch {
		case s.e != api.OK, symbol == 256:
			return
		case symbol > 285:
			s.wrong(api.ErrForm)
		case symbol < 256:
			s.put(byte(symbol))
		default:
			l := slowLengths()[symbol-257]
			length := l[0] + s.number(l[1])
			d := slowDistances()[s.symbol(distanceCodes)]
			distance := d[0] + s.number(d[1])
			if distance > len(s.out) {
				s.wrong(api.ErrForm)
			}
			for i := 0; i < length && s.e == api.OK; i++ {
				s.put(s.out[len(s.out)-distance])
			}
		}
	}
}

// dynamic reads the lengths of symbols and of distances.
func (s *slowStream) dynamic() ([]int, []int) {
	symbols := s.number(5)
	if symbols > 29 {
		s.wrong(api.ErrForm)
	}
	distances := s.number(5)
	if distances > 29 {
		s.wrong(api.ErrForm)
	}
	count := s.number(4) + 4
	kinds := make([]int, 19)
	for i, symbol := range []int{16, 17, 18, 0, 8, 7, 9, 6, 10, 5, 11, 4, 12, 3, 13, 2, 14, 1, 15} {
		if i < count {
			kinds[symbol] = s.number(3)
		}
	}
	codes := s.codes(kinds)
	var row []int
	for s.e == api.OK && len(row) < symbols+257+distances+1 {
		symbol := s.symbol(codes)
		length, times := symbol, 1
		switch {
		case s.e != api.OK:
		case symbol == 16 && len(row) == 0:
			s.wrong(api.ErrForm)
		case symbol == 16:
			length, times = row[len(row)-1], 3+s.number(2)
		case symbol == 17:
			length, times = 0, 3+s.number(3)
		case symbol == 18:
			length, times = 0, 11+s.number(7)
		}
		for range times {
			row = append(row, length)
		}
	}
	if len(row) > symbols+257+distances+1 {
		s.wrong(api.ErrForm)
	}
	if s.e != api.OK {
		return nil, nil
	}
	return row[:symbols+257], row[symbols+257:]
}
