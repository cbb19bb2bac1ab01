package huff

import (
	"cmp"
	"slices"

	"wayfarer/api"
)

// coin is one bit more for a symbol's code, or a pack of two coins of the row below; its price is what it adds to the cost. Lengths of the least cost are found as the coins that are bought for the least money.
type coin struct {
	price int
	pack  bool
}

// Lengths is lengths, each at most most, of the least cost for the counts.
func Lengths(counts []int, most int) ([]int, api.Errno) {
	if most < 1 || most > maxLength || !areCounts(counts) {
		return nil, api.ErrArg
	}
	if len(counts) > maxSymbols {
		return nil, api.ErrLimit
	}
	rising := coming(counts)
	if len(rising) > 1<<uint(most) {
		return nil, api.ErrLimit
	}
	out := make([]int, len(counts))
	if len(rising) == 1 {
		out[rising[0]] = 1
	}
	if len(rising) > 1 {
		spend(out, rising, market(counts, rising, most))
	}
	return out, api.OK
}

// coming is the symbols that come, the rarest one first, and of one count the lesser one first.
func coming(counts []int) []int {
	var symbols []int
	for i, count := range counts {
		if count > 0 {
			symbols = append(symbols, i)
		}
	}
	slices.SortStableFunc(symbols, func(a, b int) int { return cmp.Compare(counts[a], counts[b]) })
	return symbols
}

// market is as many rows of coins as a code may have bits, from the lowest row up, in each the cheapest coins first.
func market(counts, rising []int, most int) [][]coin {
	var rows [][]coin
	var row []coin
	for range most {
		row = offered(counts, rising, row)
		rows = append(rows, row)
	}
	return rows
}

// offered is the coins of a row: one of each symbol, and packs of two of the row below. Symbols come first, and the sort keeps the order of what has one price, so that the answer is always the same one and each symbol stands behind the rarer ones.
func offered(counts, rising []int, below []coin) []coin {
	var row []coin
	for _, symbol := range rising {
		row = append(row, coin{price: counts[symbol]})
	}
	for i := 1; i < len(below); i += 2 {
		row = append(row, coin{price: below[i-1].price + below[i].price, pack: true})
	}
	slices.SortStableFunc(row, func(a, b coin) int { return cmp.Compare(a.price, b.price) })
	return row
}

// spend buys, for n symbols, the cheapest 2n - 2 coins of the topmost row, as so many make the lengths whole, and of each row below both coins of every pack bought. A symbol's length is how many coins of it are bought.
func spend(out, rising []int, rows [][]coin) {
	bought := 2*len(rising) - 2
	for i := len(rows) - 1; i >= 0; i-- {
		packs := 0
		for _, c := range rows[i][:bought] {
			if c.pack {
				packs++
			}
		}
		for _, symbol := range rising[:bought-packs] {
			out[symbol]++
		}
		bought = 2 * packs
	}
}
