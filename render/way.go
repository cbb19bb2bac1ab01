package render

import "strings"

// unpend does nothing in the last column but to end the pending.
const unpend = begin + "C"

// wayTo is what brings the cursor from a place to another one without printing.
func wayTo(cols, from, to int) string {
	row, col := to/cols, to%cols
	return shortest(placed(row, col), vertical(row-from/cols)+sideways(from%cols, col))
}

// placed is what brings the cursor to a place from anywhere.
func placed(row, col int) string {
	if col == 0 {
		return sequence('H', short(row+1))
	}
	return sequence('H', short(row+1), short(col+1))
}

// vertical is what brings the cursor so many rows down, or up if down is below 0. To feed lines scrolls nothing, as the row that it ends in is one of the screen.
func vertical(down int) string {
	switch {
	case down > 0:
		return shortest(strings.Repeat("\n", down), sequence('B', short(down)))
	case down < 0:
		return sequence('A', short(-down))
	}
	return ""
}

// sideways is what brings the cursor from a column to another one.
func sideways(from, to int) string {
	switch {
	case to == from:
		return ""
	case to == 0:
		return "\r"
	case to > from:
		return sequence('C', short(to-from))
	}
	return shortest(strings.Repeat("\b", from-to), sequence('D', short(from-to)), sequence('G', short(to+1)))
}

// scrolled is what makes all rows go up by so many.
func scrolled(up int) []byte {
	if up == 0 {
		return nil
	}
	return []byte(sequence('S', short(up)))
}

// shortest is the first one of those that have the fewest bytes.
func shortest(first string, others ...string) string {
	for _, text := range others {
		if len(text) < len(first) {
			first = text
		}
	}
	return first
}
