package width

import (
	"strconv"
	"strings"
	"sync"

	"wayfarer/api"
)

// The document's words, read slowly: the tables as the chapter writes them, and every number painted with its width.

const (
	slowWide = "1100-115f, 231a-231b, 2329-232a, 23e9-23ec, 25fd-25fe, 2614-2615, 2648-2653, 26a1-26a1, 26bd-26be, 2705-2705, 2728-2728, 274c-274c, 2753-2755, 2795-2797, 2b1b-2b1c, 2b50-2b50, 2e80-303e, 3041-33ff, 3400-4dbf, 4e00-9fff, a000-a4cf, ac00-d7a3, f900-faff, fe30-fe6f, ff01-ff60, ffe0-ffe6, 1f300-1f320, 1f32d-1f335, 1f337-1f37c, 1f400-1f43e, 1f440-1f440, 1f442-1f4fc, 1f600-1f64f, 1f680-1f6c5, 1f900-1f9ff, 20000-2fffd, 30000-3fffd"
	slowZero = "300-36f, 483-489, 591-5bd, 5bf-5bf, 5c1-5c2, 610-61a, 64b-65f, 6d6-6dc, 900-902, 93c-93c, 941-948, 94d-94d, e31-e31, e34-e3a, 1ab0-1aff, 1dc0-1dff, 200b-200f, 202a-202e, 2060-2064, 20d0-20ff, 302a-302d, 3099-309a, fe00-fe0f, fe20-fe2f, feff-feff, e0100-e01ef"
)

// slowTable is the spans that a text of the chapter tells.
func slowTable(text string) (l []api.Span) {
	for _, span := range strings.Split(text, ", ") {
		lo, hi, _ := strings.Cut(span, "-")
		l = append(l, api.Span{Lo: slowNumber(lo), Hi: slowNumber(hi)})
	}
	return l
}

func slowNumber(text string) rune {
	n, err := strconv.ParseInt(text, 16, 32)
	if err != nil {
		panic(err)
	}
	return rune(n)
}

// slowEnd is the first number behind those that are painted.
const slowEnd = 1114112

// slowWidths is the width of each number up to the greatest that has one. What is painted later counts.
var slowWidths = sync.OnceValue(func() *[slowEnd]int {
	var widths [slowEnd]int
	paint := func(lo, hi rune, width int) {
		for c := lo; c <= hi; c++ {
			widths[c] = width
		}
	}
	paint(0, slowEnd-1, 1)
	for _, s := range slowTable(slowWide) {
		paint(s.Lo, s.Hi, 2)
	}
	for _, s := range slowTable(slowZero) {
		paint(s.Lo, s.Hi, 0)
	}
	paint(0, 31, -1)
	paint(127, 159, -1)
	paint(55296, 57343, -1)
	return &widths
})

func slowOf(c rune) int {
	if c < 0 || c >= slowEnd {
		return -1
	}
	return slowWidths()[c]
}

func slowText(l []rune) (columns int) {
	for _, c := range l {
		if n := slowOf(c); n != -1 {
			columns += n
		}
	}
	return columns
}

// slowIn counts from Lo up to c and from c up to Hi, in numbers that have room for both ways.
func slowIn(l []api.Span, c rune) bool {
	found := 0
	for _, s := range l {
		below, above := int64(c)-int64(s.Lo), int64(s.Hi)-int64(c)
		if below >= 0 && above >= 0 {
			found++
		}
	}
	return found > 0
}
