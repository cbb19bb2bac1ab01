package huff

import (
	"container/heap"
	"math"
	"slices"
	"sort"
	"testing"

	"wayfarer/api"
)

// checkLeast holds Lengths to the least cost there is.
func checkLeast(t *testing.T, counts []int, most, least int) {
	t.Helper()
	if cost := checkLengths(t, counts, most); cost != least {
		t.Fatalf("Lengths(%.80v, %d) costs %d, the least is %d", counts, most, cost, least)
	}
}

// numberThatCome is how many symbols come.
func numberThatCome(counts []int) int {
	n := 0
	for _, count := range counts {
		if count > 0 {
			n++
		}
	}
	return n
}

// P4.2: the least cost of every lengths that may be, for few symbols and each most that holds them, and a limit for each other one.
func TestLeastOfAll(t *testing.T) {
	lists := every(4, 4)
	for seed := range uint64(60) {
		lists = append(lists, scrambled(5, 40, seed), scrambled(5, 1<<20+1, seed))
	}
	for _, counts := range lists {
		for most := 1; most <= 5; most++ {
			if numberThatCome(counts) > 1<<most {
				refuseLengths(t, counts, most, api.ErrLimit)
				continue
			}
			checkLeast(t, counts, most, slowLeast(counts, most))
		}
	}
	for _, counts := range [][]int{{1, 1, 2, 4, 8, 16}, {1, 1, 2, 3, 5, 8}, {9, 9, 9, 9, 9, 9}, {100, 1, 1, 1, 1, 1}, {1 << 20, 1, 1 << 20, 2, 0, 3}} {
		for most := 3; most <= 6; most++ {
			checkLeast(t, counts, most, slowLeast(counts, most))
		}
	}
	checkLeast(t, []int{1, 1, 2, 4, 8, 16, 32}, 4, slowLeast([]int{1, 1, 2, 4, 8, 16, 32}, 4))
	checkLeast(t, []int{1, 1, 1, 1, 1, 1, 1, 1}, 3, 24)
}

// P4.2: the least cost for more symbols, with each most.
func TestLeastOfMany(t *testing.T) {
	fibonacci := []int{1, 1}
	for len(fibonacci) < 30 {
		fibonacci = append(fibonacci, fibonacci[len(fibonacci)-1]+fibonacci[len(fibonacci)-2])
	}
	doubles := []int{1}
	for len(doubles) < 21 {
		doubles = append(doubles, 2*doubles[len(doubles)-1])
	}
	lists := [][]int{fibonacci, doubles, slices.Repeat([]int{3, 0, 1}, 12), slices.Repeat([]int{1 << 20}, 33)}
	for seed := range uint64(6) {
		counts := scrambled(10+int(seed)*8, 20, seed)
		for i := range counts {
			counts[i] = counts[i] * counts[i] * counts[i]
		}
		lists = append(lists, counts)
	}
	for _, counts := range lists {
		for most := 1; most <= 15; most++ {
			if numberThatCome(counts) > 1<<most {
				refuseLengths(t, counts, most, api.ErrLimit)
				continue
			}
			checkLeast(t, counts, most, slowBound(counts, most))
		}
	}
}

// TestSlowBound holds the two slow ways against each other, so that the one for many symbols may be leant on.
func TestSlowBound(t *testing.T) {
	for seed := range uint64(40) {
		counts := scrambled(5, 30, seed)
		for most := 3; most <= 5; most++ {
			if a, b := slowLeast(counts, most), slowBound(counts, most); a != b {
				t.Fatalf("the least cost of %d with %d: %d and %d", counts, most, a, b)
			}
		}
	}
}

// joined is the cost of the lengths that no most holds back: the two least are made one, over and over.
func joined(counts []int) (cost, deepest int) {
	row := &trees{}
	for _, count := range counts {
		if count > 0 {
			row.IntSlice = append(row.IntSlice, count<<10)
		}
	}
	heap.Init(row)
	for row.Len() > 1 {
		a, b := heap.Pop(row).(int), heap.Pop(row).(int)
		depth := max(a&1023, b&1023) + 1
		sum := a>>10 + b>>10
		cost += sum
		deepest = max(deepest, depth)
		heap.Push(row, sum<<10|depth)
	}
	return cost, deepest
}

// trees is a heap of numbers, each a count and, in its lowest ten bits, a depth: of one count the flattest one is the least.
type trees struct{ sort.IntSlice }

func (r *trees) Push(x any) { r.IntSlice = append(r.IntSlice, x.(int)) }

func (r *trees) Pop() any {
	last := r.IntSlice[len(r.IntSlice)-1]
	r.IntSlice = r.IntSlice[:len(r.IntSlice)-1]
	return last
}

// P4.2: where no most holds them back, the lengths cost what joining the two least over and over does, for up to 512 symbols.
func TestLeastWithoutMost(t *testing.T) {
	for _, count := range []int{2, 3, 10, 100, 286, 511, 512} {
		for _, below := range []int{2, 7, 1000, 1<<20 + 1} {
			for seed := range uint64(3) {
				counts := scrambled(count, below, seed)
				for i := range counts {
					counts[i] = max(counts[i], i%2)
				}
				cost, deepest := joined(counts)
				if deepest < 2 || deepest > 15 {
					continue
				}
				checkLeast(t, counts, deepest, cost)
				checkLeast(t, counts, 15, cost)
			}
		}
	}
}

// P4.2: as many symbols that come as 2^most, which all have the length most, and one more, wherever symbols that don't come stand.
func TestAsManyAsMostHolds(t *testing.T) {
	for most := 1; most <= 15; most++ {
		n := 1 << min(most, 9)
		counts := scrambled(n, 1<<20, uint64(most))
		for i := range counts {
			counts[i]++
		}
		checkLengths(t, counts, most)
		if most > 9 {
			continue
		}
		lengths, e := Lengths(counts, most)
		if e != api.OK || !slices.Equal(lengths, slices.Repeat([]int{most}, n)) {
			t.Errorf("Lengths of %d symbols, %d = %.80v, %v", n, most, lengths, e)
		}
		if n < 512 {
			refuseLengths(t, append(slices.Clone(counts), 1), most, api.ErrLimit)
			checkLengths(t, append(slices.Clone(counts), 0), most)
			checkLengths(t, append(make([]int, 512-n), counts...), most)
			refuseLengths(t, append(append(make([]int, 512-n-1), counts...), 1), most, api.ErrLimit)
		}
		refuseLengths(t, slices.Repeat([]int{1}, n+1), most, api.ErrLimit)
	}
}

// P4.2: just one symbol that comes has the length 1, however often it comes, and where none comes all lengths are 0.
func TestOneOrNone(t *testing.T) {
	for most := 1; most <= 15; most++ {
		for _, n := range []int{1, 2, 512} {
			for _, count := range []int{1, 2, 1 << 20} {
				for _, at := range []int{0, n / 2, n - 1} {
					counts, want := make([]int, n), make([]int, n)
					counts[at], want[at] = count, 1
					if l, e := Lengths(counts, most); e != api.OK || !slices.Equal(l, want) {
						t.Errorf("Lengths with just %d at %d of %d, %d = %.80v, %v", count, at, n, most, l, e)
					}
				}
			}
			if l, e := Lengths(make([]int, n), most); e != api.OK || !slices.Equal(l, make([]int, n)) {
				t.Errorf("Lengths of %d noughts, %d = %.80v, %v", n, most, l, e)
			}
		}
		for _, counts := range [][]int{nil, {}} {
			if l, e := Lengths(counts, most); e != api.OK || len(l) != 0 {
				t.Errorf("Lengths of nothing, %d = %d, %v", most, l, e)
			}
		}
	}
}

// P4.2: a count of -1, 0, 2^20 and one more, wherever it stands and however long the list is; a most of 0, 1, 15 and 16; errors in their order.
func TestWrongCounts(t *testing.T) {
	for _, n := range []int{1, 2, 512, 513, 600} {
		for _, at := range []int{0, n / 2, n - 1} {
			for _, count := range []int{-1, 1<<20 + 1, math.MinInt, math.MaxInt} {
				counts := make([]int, n)
				counts[at] = count
				for _, most := range []int{0, 1, 15, 16} {
					refuseLengths(t, counts, most, api.ErrArg)
				}
			}
			for _, count := range []int{0, 1, 1 << 20} {
				counts := make([]int, n)
				counts[at] = count
				for _, most := range []int{-1, 0, 16, 17, math.MinInt, math.MaxInt} {
					refuseLengths(t, counts, most, api.ErrArg)
				}
				for _, most := range []int{1, 15} {
					if n > 512 {
						refuseLengths(t, counts, most, api.ErrLimit)
						continue
					}
					checkLengths(t, counts, most)
				}
			}
		}
	}
	for _, most := range []int{-1, 0, 16, 64, math.MinInt, math.MaxInt} {
		refuseLengths(t, nil, most, api.ErrArg)
		refuseLengths(t, []int{1, 1, 1}, most, api.ErrArg)
	}
	refuseLengths(t, []int{1, 1, 1, -1}, 1, api.ErrArg)
	refuseLengths(t, slices.Repeat([]int{1}, 513), 15, api.ErrLimit)
	refuseLengths(t, make([]int, 513), 1, api.ErrLimit)
	refuseLengths(t, make([]int, 513), 15, api.ErrLimit)
}

// How long the calls take for as many symbols as may be.
func BenchmarkLengths(b *testing.B) {
	counts := scrambled(512, 1000, 3)
	for b.Loop() {
		Lengths(counts, 15)
	}
}

func BenchmarkCodes(b *testing.B) {
	lengths := slices.Repeat([]int{9}, 512)
	for b.Loop() {
		Codes(lengths)
	}
}

func BenchmarkSymbol(b *testing.B) {
	lengths := slices.Repeat([]int{9}, 512)
	for b.Loop() {
		Symbol(lengths, []byte{1, 2}, 3)
	}
}
