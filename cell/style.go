package cell

import "wayfarer/api"

// Colours: none of its own, the last one of each row of eight that has parameters of its own, the last one of all.
const (
	noColour   = -1
	lastDark   = 7
	lastBright = 15
	lastColour = 255
)

// Plain is the plain style.
func Plain() api.Style {
	return api.Style{Fg: noColour, Bg: noColour}
}

// Apply is what the parameters make of s.
func Apply(s api.Style, params ...int) api.Style {
	if len(params) == 0 {
		return Plain()
	}
	l := lookOf(s)
	for len(params) > 0 {
		params = params[l.take(params):]
	}
	return l.style()
}

// Change is parameters by which Apply makes to of from.
func Change(from, to api.Style) []int {
	if from == to || !mayStyle(from) || !mayStyle(to) {
		return nil
	}
	straight := steps(lookOf(from), lookOf(to))
	anew := append([]int{reset}, steps(lookOf(Plain()), lookOf(to))...)
	// Where both are as many, those from the plain style on take no more bytes when they are written: to reset all takes one digit, to make one flag false two.
	if len(anew) <= len(straight) {
		return anew
	}
	return straight
}

func mayStyle(s api.Style) bool {
	return mayColour(s.Fg) && mayColour(s.Bg)
}

func mayColour(n int) bool {
	return n == noColour || isColour(n)
}

func isColour(n int) bool {
	return n >= 0 && n <= lastColour
}
