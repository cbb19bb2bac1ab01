package render

import (
	"slices"

	"wayfarer/api"
)

// What control sequences begin with, those of private modes, and commands; what names a title ahead of it, and what ends that.
const (
	begin        = "\x1b["
	beginPrivate = begin + "?"

	beginCommand = "\x1b]"
	titleKind    = "2;"
	bell         = "\x07"
)

// rubout is the one character above the controls that no title takes.
const rubout = 127

// Private modes.
const (
	arrowsMode  = 1
	visibleMode = 25
	pasteMode   = 2004
)

// settings is what makes the title and the modes of from those of to.
func settings(from, to api.Screen) []byte {
	var out []byte
	if !slices.Equal(from.Title, to.Title) {
		out = append(out, beginCommand+titleKind+string(to.Title)+bell...)
	}
	turn := func(mode int, was, on bool) {
		switch {
		case on && !was:
			out = append(out, beginPrivate+digits(mode)+"h"...)
		case was && !on:
			out = append(out, beginPrivate+digits(mode)+"l"...)
		}
	}
	turn(visibleMode, from.Visible, to.Visible)
	turn(arrowsMode, from.Arrows, to.Arrows)
	turn(pasteMode, from.Paste, to.Paste)
	return out
}

// sequence is a control sequence. Of a parameter that is 0 no digits are told, as one without digits is 0.
func sequence(final rune, params ...int) string {
	text := begin
	for i, n := range params {
		if i > 0 {
			text += ";"
		}
		text += digits(n)
	}
	return text + string(final)
}

// short is a count as a parameter: 0 counts as 1.
func short(n int) int {
	if n == 1 {
		return 0
	}
	return n
}

// digits is a number from 0 on as it is written, but none of 0.
func digits(n int) string {
	text := ""
	for ; n > 0; n /= 10 {
		text = string(rune(n%10+'0')) + text
	}
	return text
}
