package model

import (
	"reflect"
	"strings"

	"wayfarer/api"
	"wayfarer/emulator"
	"wayfarer/screen"
)

// The document's words, read slowly.

// slowOf is the screen of a terminal that gets its bytes one by one.
func slowOf(cols, rows int, b []byte) (api.Screen, api.Errno) {
	m, e := emulator.New(cols, rows)
	if e != api.OK {
		return api.Screen{}, api.ErrArg
	}
	for _, x := range b {
		m.Write([]byte{x})
	}
	return m.Screen(), api.OK
}

// slowSee finds each field of a view in the screen by its name.
func slowSee(s api.Screen) (v api.View, e api.Errno) {
	if !screen.May(s) {
		return v, api.ErrArg
	}
	from, to := reflect.ValueOf(apart(s)), reflect.ValueOf(&v).Elem()
	for i := range to.NumField() {
		to.Field(i).Set(from.FieldByName(to.Type().Field(i).Name))
	}
	return v, api.OK
}

// slowTame is whether a screen stays what it is when all that a tame one is held to is laid into it.
func slowTame(s api.Screen) bool {
	tame := s
	tame.Top, tame.Bottom = 0, s.Grid.Rows-1
	tame.Wrap, tame.Origin, tame.Insert, tame.Alt, tame.Pend = true, false, false, false, false
	tame.Style = plain()
	return screen.May(s) && reflect.DeepEqual(s, tame)
}

// slowDiffer asks for each number that is a place, by its row and its column.
func slowDiffer(v, w api.View) (l []int, e api.Errno) {
	if !slowMayGrid(v.Grid) || !slowMayGrid(w.Grid) || v.Grid.Cols != w.Grid.Cols || v.Grid.Rows != w.Grid.Rows {
		return nil, api.ErrArg
	}
	for row := range v.Grid.Rows {
		for col := range v.Grid.Cols {
			if at := row*v.Grid.Cols + col; !reflect.DeepEqual(v.Grid.Cells[at], w.Grid.Cells[at]) {
				l = append(l, at)
			}
		}
	}
	return l, api.OK
}

// slowMayGrid lays a grid into a new screen of its size.
func slowMayGrid(g api.Grid) bool {
	s, e := screen.New(g.Cols, g.Rows)
	s.Grid = g
	return e == api.OK && screen.May(s)
}

// slowText writes all of a row, and cuts the spaces at its end off: a blank with marks ends with these.
func slowText(s api.Screen) (string, api.Errno) {
	if !screen.May(s) {
		return "", api.ErrArg
	}
	text := ""
	for row := range s.Grid.Rows {
		line := ""
		for col := range s.Grid.Cols {
			x := s.Grid.Cells[row*s.Grid.Cols+col]
			if x.Wide == 0 {
				continue
			}
			line += string(x.Char) + strings.ReplaceAll(string(x.Marks[:]), "\x00", "")
		}
		text += strings.TrimRight(line, " ") + "\n"
	}
	return text, api.OK
}
