package render

import (
	"wayfarer/api"
	"wayfarer/cell"
)

// stroke is a text that is written at a place (row times the columns, and column) in a style, and makes the cells from there up to, but without, another place what they are to be.
type stroke struct {
	at, upTo int
	style    api.Style
	text     string
	isPrint  bool // the cursor goes on to upTo
}

// printed is the stroke of a cell that is no second half.
func printed(at int, x api.Cell) stroke {
	return stroke{at: at, upTo: at + int(x.Wide), style: x.Style, text: formOf(x), isPrint: true}
}

// cleared is one that makes blanks.
func cleared(at, upTo int, s api.Style, text string) stroke {
	return stroke{at: at, upTo: upTo, style: s, text: text}
}

// stood is one that leaves the cursor at a place, and the plain style.
func stood(at int) stroke {
	return stroke{at: at, upTo: at, style: cell.Plain()}
}

// penOn is what writes on a terminal that has the tame screen from and was handed the bytes out: it tells these with all that it wrote. All cells ahead of a stroke are to be as in to by then.
func penOn(from, to api.Screen, out []byte) func(next stroke) []byte {
	cols, wanted := to.Grid.Cols, to.Grid.Cells
	at, pends, style := from.Row*cols+from.Col, false, from.Style
	reach := func(next stroke) string {
		switch {
		case pends && next.isPrint && next.at == at+1:
			// It comes to the next row by itself.
			return ""
		case pends && next.at == at:
			return unpend
		case next.at == at:
			return ""
		}
		way := wayTo(cols, at, next.at)
		if at < next.at && at/cols == next.at/cols {
			return along(wanted[at:next.at], style, way)
		}
		return way
	}
	return func(next stroke) []byte {
		out = append(out, reach(next)...)
		out = append(out, restyled(style, next.style)...)
		out = append(out, next.text...)
		at, pends, style = next.at, false, next.style
		if next.isPrint {
			at, pends = next.upTo, next.upTo%cols == 0
		}
		if pends {
			at--
		}
		return out
	}
}

// along is the cells that are passed, printed once more, if they are of the style that is written in and take fewer bytes than way; else way.
func along(passed []api.Cell, style api.Style, way string) string {
	first, last := passed[0], passed[len(passed)-1]
	if first.Wide == 0 || last.Wide == 2 {
		// One begins or ends in the midst of a wide character.
		return way
	}
	text := ""
	for _, x := range passed {
		text += formOf(x)
		if x.Style != style || len(text) >= len(way) {
			return way
		}
	}
	return text
}

// formOf is the bytes of a cell's character and its marks; none of a second half.
func formOf(x api.Cell) string {
	if x.Wide == 0 {
		return ""
	}
	text := string(x.Char)
	for _, c := range x.Marks {
		if c != 0 {
			text += string(c)
		}
	}
	return text
}

// restyled is what makes a terminal that writes in one style write in another one.
func restyled(from, to api.Style) string {
	return toldStyle(from, to, cell.Change(from, to))
}

// toldStyle is the parameters that make to of from, in as many sequences as it takes.
func toldStyle(from, to api.Style, params []int) string {
	text := ""
	for len(params) > 0 {
		count := fitting(from, to, params)
		text += sequence('m', params[:count]...)
		from, params = cell.Apply(from, params[:count]...), params[count:]
	}
	return text
}

// fitting is how many of the parameters that make to of from go into one sequence: a terminal keeps the first MaxParams of it alone, and those that tell one colour may not come apart.
func fitting(from, to api.Style, params []int) int {
	count := min(len(params), api.MaxParams)
	for count > 1 && count < len(params) {
		if cell.Apply(cell.Apply(from, params[:count]...), params[count:]...) == to {
			break
		}
		count--
	}
	return count
}
