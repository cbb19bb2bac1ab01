package cell

import (
	"math"

	"wayfarer/api"
)

// The document's words, read slowly: the table of parameters row by row as the chapter has it, marks as a list, and characters whose width is known by hand.

// ofWidth is characters of a width, by hand.
func ofWidth(n int) []rune {
	switch n {
	case 0:
		return []rune{0x300, 0x301, 0x302, 0x36f, 0x200b, 0x302a, 0x309a, 0xfe0f, 0xfeff, 0xe01ef}
	case 1:
		return []rune{32, 'a', '~', 160, 233, 301, 0x2ff, 0x370, 0x20ac, 0xfffd, 0x10ffff}
	case 2:
		return []rune{0x1100, 0x3041, 0x4e2d, 0xac00, 0xff01, 0x1f600, 0x20000, 0x3fffd}
	}
	return []rune{0, 1, 10, 27, 31, 127, 155, 159, 0xd800, 0xdfff, 0x110000, 1 << 24, math.MaxInt32, -1, -97, -0x301, -0x4e2d, math.MinInt32}
}

// slowWidth is the width of one of these.
func slowWidth(c rune) int {
	for n := 0; n <= 2; n++ {
		for _, x := range ofWidth(n) {
			if x == c {
				return n
			}
		}
	}
	return -1
}

// everyWidth is all of these.
func everyWidth() (l []rune) {
	for n := -1; n <= 2; n++ {
		l = append(l, ofWidth(n)...)
	}
	return l
}

func slowMayColour(n int) bool {
	for colour := -1; colour <= 255; colour++ {
		if n == colour {
			return true
		}
	}
	return false
}

func slowMayStyle(s api.Style) bool {
	return slowMayColour(s.Fg) && slowMayColour(s.Bg)
}

// slowMarks is the marks that are there, and whether those that are not are behind all others.
func slowMarks(x api.Cell) (there []rune, inOrder bool) {
	inOrder = true
	for i, m := range x.Marks {
		if m == 0 {
			continue
		}
		there = append(there, m)
		for _, ahead := range x.Marks[:i] {
			inOrder = inOrder && ahead != 0
		}
	}
	return there, inOrder
}

func slowMay(x api.Cell) bool {
	marks, inOrder := slowMarks(x)
	shown := (x.Wide == 1 || x.Wide == 2) && slowWidth(x.Char) == int(x.Wide) && inOrder
	for _, m := range marks {
		shown = shown && slowWidth(m) == 0
	}
	half := x.Wide == 0 && x.Char == 0 && len(marks) == 0
	return slowMayStyle(x.Style) && (shown || half)
}

func slowMark(x api.Cell, c rune) api.Cell {
	marks, _ := slowMarks(x)
	if slowWidth(c) != 0 || x.Wide != 1 && x.Wide != 2 || len(marks) >= 3 {
		return x
	}
	x.Marks = [3]rune{}
	copy(x.Marks[:], append(marks, c))
	return x
}

// slowTable is what each parameter that says something by itself does.
func slowTable() map[int]func(s *api.Style) {
	table := map[int]func(s *api.Style){
		0:  func(s *api.Style) { *s = api.Style{Fg: -1, Bg: -1} },
		1:  func(s *api.Style) { s.Bold = true },
		2:  func(s *api.Style) { s.Faint = true },
		3:  func(s *api.Style) { s.Italic = true },
		4:  func(s *api.Style) { s.Under = true },
		5:  func(s *api.Style) { s.Blink = true },
		7:  func(s *api.Style) { s.Inverse = true },
		8:  func(s *api.Style) { s.Hidden = true },
		9:  func(s *api.Style) { s.Struck = true },
		22: func(s *api.Style) { s.Bold, s.Faint = false, false },
		23: func(s *api.Style) { s.Italic = false },
		24: func(s *api.Style) { s.Under = false },
		25: func(s *api.Style) { s.Blink = false },
		27: func(s *api.Style) { s.Inverse = false },
		28: func(s *api.Style) { s.Hidden = false },
		29: func(s *api.Style) { s.Struck = false },
		39: func(s *api.Style) { s.Fg = -1 },
		49: func(s *api.Style) { s.Bg = -1 },
	}
	for colour := range 8 {
		table[30+colour] = func(s *api.Style) { s.Fg = colour }
		table[90+colour] = func(s *api.Style) { s.Fg = 8 + colour }
		table[40+colour] = func(s *api.Style) { s.Bg = colour }
		table[100+colour] = func(s *api.Style) { s.Bg = 8 + colour }
	}
	return table
}

// slowApply marks each parameter that is passed over, and goes on at the first one that is not.
func slowApply(s api.Style, params []int) api.Style {
	if len(params) == 0 {
		return slowApply(s, []int{0})
	}
	table := slowTable()
	passed := make([]bool, len(params)+5)
	for i, n := range params {
		if passed[i] {
			continue
		}
		behind := params[i+1:]
		switch {
		case n != 38 && n != 48:
			if f, ok := table[n]; ok {
				f(&s)
			}
		case len(behind) >= 2 && behind[0] == 5:
			passed[i+1], passed[i+2] = true, true
			if slowMayColour(behind[1]) && behind[1] != -1 {
				if n == 38 {
					s.Fg = behind[1]
				} else {
					s.Bg = behind[1]
				}
			}
		case len(behind) >= 1 && behind[0] == 2:
			for j := 1; j <= 4; j++ {
				passed[i+j] = true
			}
		}
	}
	return s
}
