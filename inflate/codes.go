package inflate

import (
	"wayfarer/api"
	"wayfarer/huff"
)

const (
	maxCount   = 29 // of HLIT and HDIST
	lengthKind = 19 // symbols that tell lengths
	sayAgain   = 16 // tells the length ahead again
	fewNoughts = 17
	noughts    = 18
)

// fork is where each bit leads to: to another fork of the tree, by its place there; to a symbol, which stands turned (^symbol) and so is below 0; or nowhere.
type fork [2]int

// nowhere is the place of a tree's first fork, to which no bit leads.
const nowhere = 0

// tree is the forks of the codes of such lengths.
func tree(lengths []int) []fork {
	codes, e := huff.Codes(lengths)
	if e != api.OK {
		fail(api.ErrForm)
	}
	forks := []fork{{}}
	for symbol, code := range codes {
		if code.Size > 0 {
			forks = graft(forks, code, symbol)
		}
	}
	return forks
}

// graft is forks with one more code.
func graft(forks []fork, code api.Bits, symbol int) []fork {
	place := 0
	for code.Size > 1 {
		bit := code.Value & 1
		if forks[place][bit] == nowhere {
			forks[place][bit] = len(forks)
			forks = append(forks, fork{})
		}
		place = forks[place][bit]
		code = api.Bits{Value: code.Value >> 1, Size: code.Size - 1}
	}
	forks[place][code.Value] = ^symbol
	return forks
}

// reader reads the next symbol of codes of such lengths, wherever the stream is by then.
func (s *stream) reader(lengths []int) func() int {
	forks := tree(lengths)
	return func() int {
		// Without any code no bit has to be read to know that there is none.
		if forks[0] == (fork{}) {
			fail(api.ErrForm)
		}
		place := 0
		for place >= 0 {
			place = forks[place][s.number(1)]
			if place == nowhere {
				fail(api.ErrForm)
			}
		}
		return ^place
	}
}

// dynamic reads the codes of a block that tells its own.
func (s *stream) dynamic() codes {
	symbols := s.count() + firstLength
	distances := s.count() + 1
	row := s.row(s.reader(s.kinds(s.number(4)+4)), symbols+distances)
	if row[endSymbol] == 0 {
		fail(api.ErrForm)
	}
	return codes{s.reader(row[:symbols]), s.reader(row[symbols:])}
}

// count is how many lengths of a kind there are beyond the least.
func (s *stream) count() int {
	count := s.number(5)
	if count > maxCount {
		fail(api.ErrForm)
	}
	return count
}

// kinds is the lengths of the symbols that tell lengths, of which so many are told.
func (s *stream) kinds(count int) []int {
	order := [lengthKind]int{16, 17, 18, 0, 8, 7, 9, 6, 10, 5, 11, 4, 12, 3, 13, 2, 14, 1, 15}
	lengths := make([]int, lengthKind)
	for _, symbol := range order[:count] {
		lengths[symbol] = s.number(3)
	}
	return lengths
}

// row is so many lengths, those of symbols and of distances behind each other.
func (s *stream) row(next func() int, count int) []int {
	row := make([]int, 0, count)
	for len(row) < count {
		length, times := s.lengths(next(), row)
		if times > count-len(row) {
			fail(api.ErrForm)
		}
		row = append(row, repeated(length, times)...)
	}
	return row
}

// lengths is the length that a symbol tells behind a row, and how many times.
func (s *stream) lengths(symbol int, row []int) (length, times int) {
	switch symbol {
	case sayAgain:
		if len(row) == 0 {
			fail(api.ErrForm)
		}
		return row[len(row)-1], 3 + s.number(2)
	case fewNoughts:
		return 0, 3 + s.number(3)
	case noughts:
		return 0, 11 + s.number(7)
	}
	return symbol, 1
}
