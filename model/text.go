package model

import (
	"wayfarer/api"
	"wayfarer/screen"
	"wayfarer/utf"
)

const (
	space  = 32
	rowEnd = 10 // stands behind each row
)

// Text is the rows of s as a text.
func Text(s api.Screen) (string, api.Errno) {
	if !screen.May(s) {
		return "", api.ErrArg
	}
	var text []byte
	for row := range s.Grid.Rows {
		from, to := place(s.Grid, row, 0), place(s.Grid, row+1, 0)
		text = append(text, utf.Encode(told(s.Grid.Cells[from:to]))...)
	}
	return string(text), api.OK
}

// told is what a text has of the cells of a row.
func told(row []api.Cell) []rune {
	var l []rune
	for _, c := range withoutBlanks(row) {
		if c.Wide > 0 {
			l = appendCell(l, c)
		}
	}
	return append(l, rowEnd)
}

// withoutBlanks is a row up to the last cell that is no blank. In what look a blank stands is of no weight, as a text tells of none.
func withoutBlanks(row []api.Cell) []api.Cell {
	count := len(row)
	for count > 0 && isBlank(row[count-1]) {
		count--
	}
	return row[:count]
}

func isBlank(c api.Cell) bool {
	return c.Char == space && c.Marks == [api.Marks]rune{}
}

// appendCell puts a cell's character, and its marks, behind l.
func appendCell(l []rune, c api.Cell) []rune {
	l = append(l, c.Char)
	for _, m := range c.Marks {
		if m != 0 {
			l = append(l, m)
		}
	}
	return l
}
