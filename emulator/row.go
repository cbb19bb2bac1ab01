package emulator

import "wayfarer/api"

// staysInRow is whether an action looks at nothing of s but its cursor's row and its style, and changes nothing but these and Col. What is printed ahead of the last column does not go on in the next row.
func staysInRow(s api.Screen, a api.Action) bool {
	switch a.Kind {
	case api.APrint:
		return s.Col < s.Grid.Cols-1
	case api.ACsi:
		return isRowFinal(a.Final)
	}
	return false
}

// isRowFinal is whether a control sequence of that Final stays in the cursor's row, whatever stands ahead of that: by some of it nothing is done.
func isRowFinal(final byte) bool {
	switch final {
	case 'C', 'a', 'D', 'G', '`', 'K', '@', 'P', 'X', 'm':
		return true
	}
	return false
}

// doInRow does an action that stays in the cursor's row. A deed of layer 16 goes through all cells of a screen: it is handed one of that row alone, so that most of what a terminal is handed takes no longer the more rows there are.
func (m *Emulator) doInRow(a api.Action) {
	s := &m.screen
	from, to := s.Row*s.Grid.Cols, (s.Row+1)*s.Grid.Cols
	cells := s.Grid.Cells[from:to:to]
	row := api.Screen{
		Grid: api.Grid{Cols: s.Grid.Cols, Rows: 1, Cells: cells},
		Col:  s.Col, Pend: s.Pend, Style: s.Style, Insert: s.Insert,
	}
	row, _, _ = Do(row, a)
	copy(cells, row.Grid.Cells)
	s.Col, s.Pend, s.Style = row.Col, row.Pend, row.Style
}
