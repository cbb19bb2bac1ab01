package emulator

import "wayfarer/api"

// What is asked for by a report's parameter.
const (
	askHealth = 5
	askPlace  = 6
)

// begin is what each reply begins with.
const begin = "\x1b["

// replyTo is what a terminal replies to an action, of a screen that may be.
func replyTo(s api.Screen, a api.Action) []byte {
	if a.Kind != api.ACsi || a.Private != 0 || len(a.Mid) > 0 {
		return nil
	}
	p := parameter(a, 0)
	switch {
	case a.Final == 'n' && p == askHealth:
		return []byte(begin + "0n")
	case a.Final == 'n' && p == askPlace:
		return []byte(placeOf(s))
	case a.Final == 'c' && p == 0:
		return []byte(begin + "?62c")
	}
	return nil
}

// placeOf is the reply that tells where the cursor is, counted as those sequences count that bring it to a place.
func placeOf(s api.Screen) string {
	row := s.Row
	if s.Origin {
		row -= s.Top
	}
	text := begin
	text += digits(row + 1)
	text += ";"
	text += digits(s.Col + 1)
	text += "R"
	return text
}

// digits is a number as it is written. Below 0 is a row above Top: a cursor that was kept may come back there.
func digits(n int) string {
	text := ""
	if n < 0 {
		text += "-"
		n = -n
	}
	if n > 9 {
		text += digits(n / 10)
	}
	text += string(rune(n%10 + '0'))
	return text
}
