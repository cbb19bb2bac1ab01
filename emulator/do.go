package emulator

import (
	"wayfarer/api"
	"wayfarer/screen"
)

// Control characters: the first and the last one that a terminal is told of itself, those that sequences stand for, and one that changes nothing.
const (
	firstControl = 8
	lastControl  = 13

	still    = 0
	lineFeed = 10
	carriage = 13
	feedBack = 141
)

// setTab is the kind of a tabulator that is to stand.
const setTab = 0

// Do is s behind an action, and the reply to that.
func Do(s api.Screen, a api.Action) (t api.Screen, reply []byte, e api.Errno) {
	t, e = after(s, a)
	if e == api.OK {
		reply = replyTo(s, a)
	}
	return t, reply, e
}

// after is s behind an action.
func after(s api.Screen, a api.Action) (api.Screen, api.Errno) {
	switch a.Kind {
	case api.APrint:
		return screen.Print(s, a.Char)
	case api.AExec:
		if a.Char >= firstControl && a.Char <= lastControl {
			return controls(s, a.Char)
		}
	case api.AEsc:
		if len(a.Mid) == 0 {
			return escape(s, a.Final)
		}
	case api.ACsi:
		if len(a.Mid) == 0 {
			return sequence(s, a)
		}
	case api.AOsc:
		return command(s, a.Text)
	}
	return unchanged(s)
}

// escape is s behind an escape sequence without Mid.
func escape(s api.Screen, final byte) (api.Screen, api.Errno) {
	switch final {
	case '7':
		return screen.Keep(s, false)
	case '8':
		return screen.Keep(s, true)
	case 'D':
		return controls(s, lineFeed)
	case 'E':
		return controls(s, carriage, lineFeed)
	case 'H':
		return screen.Tab(s, setTab)
	case 'M':
		return controls(s, feedBack)
	case 'c':
		return reset(s)
	}
	return unchanged(s)
}

// unchanged is s, if it may be, in memory of its own.
func unchanged(s api.Screen) (api.Screen, api.Errno) {
	return controls(s, still)
}

// controls is s behind control characters, of which there is at least one.
func controls(s api.Screen, l ...rune) (t api.Screen, e api.Errno) {
	t = s
	for _, c := range l {
		// Of what may not be a zero screen comes, which may not be either: the error stays.
		t, e = screen.Control(t, c)
	}
	return t, e
}

// reset is a new screen of the size and the Title of s.
func reset(s api.Screen) (api.Screen, api.Errno) {
	t, e := unchanged(s)
	if e != api.OK {
		return t, e
	}
	title := t.Title
	t, e = screen.New(s.Grid.Cols, s.Grid.Rows)
	t.Title = title
	return t, e
}

// command is s behind an operating system command.
func command(s api.Screen, text []rune) (api.Screen, api.Errno) {
	t, e := unchanged(s)
	if e == api.OK && namesTitle(text) {
		t.Title = titleOf(text[titleAt:])
	}
	return t, e
}

// titleAt is where the title begins in a command that names it.
const titleAt = 2

func namesTitle(text []rune) bool {
	if len(text) < titleAt {
		return false
	}
	switch string(text[:titleAt]) {
	case "0;", "2;":
		return true
	}
	return false
}

// titleOf is as much of a text as a screen may have for a title.
func titleOf(text []rune) []rune {
	var title []rune
	for _, c := range text {
		if c >= 0 && len(title) < api.MaxTitle {
			title = append(title, c)
		}
	}
	return title
}
