package clock

import (
	"math/big"

	"wayfarer/api"
)

// The document's words, read slowly: time is walked millisecond by millisecond, and estimates are numbers without an end.

// slowSince walks from then to now.
func slowSince(now, then uint16) int {
	steps := 0
	for at := int(then); at != int(now); at = (at + 1) % 65536 {
		steps++
	}
	return steps
}

func number(n int) *big.Int           { return big.NewInt(int64(n)) }
func sum(x, y *big.Int) *big.Int      { return new(big.Int).Add(x, y) }
func less(x, y *big.Int) *big.Int     { return new(big.Int).Sub(x, y) }
func over(x *big.Int, n int) *big.Int { return new(big.Int).Quo(x, number(n)) }

func slowMay(r api.Rtt) bool {
	if r.Mean < 0 || r.Spread < 0 {
		return false
	}
	if !r.Any {
		return r.Mean == 0 && r.Spread == 0
	}
	return r.Mean < 8*65535+1 && r.Spread < 4*65535+1
}

func slowSample(r api.Rtt, ms uint16) (api.Rtt, api.Errno) {
	if !slowMay(r) {
		return api.Rtt{}, api.ErrArg
	}
	if !r.Any {
		return api.Rtt{Any: true, Mean: 8 * int(ms), Spread: 2 * int(ms)}, api.OK
	}
	d := less(number(int(ms)), over(number(r.Mean), 8))
	a := new(big.Int).Abs(d)
	mean := sum(number(r.Mean), d)
	spread := sum(number(r.Spread), less(a, over(number(r.Spread), 4)))
	return api.Rtt{Any: true, Mean: int(mean.Int64()), Spread: int(spread.Int64())}, api.OK
}

// between is n, or the bound that it is past.
func between(n *big.Int, least, most int) int {
	switch {
	case n.Cmp(number(least)) < 0:
		return least
	case n.Cmp(number(most)) > 0:
		return most
	}
	return int(n.Int64())
}

func slowTimeout(r api.Rtt) (int, api.Errno) {
	switch {
	case !slowMay(r):
		return 0, api.ErrArg
	case !r.Any:
		return 1000, api.OK
	}
	return between(sum(over(number(r.Mean), 8), number(r.Spread)), 50, 1000), api.OK
}

func slowPace(r api.Rtt) (int, api.Errno) {
	switch {
	case !slowMay(r):
		return 0, api.ErrArg
	case !r.Any:
		return 250, api.OK
	}
	return between(over(over(number(r.Mean), 8), 2), 20, 250), api.OK
}
