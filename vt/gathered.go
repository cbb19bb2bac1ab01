package vt

import (
	"slices"

	"wayfarer/api"
)

// maxMid is how many characters of Mid a sequence may have.
const maxMid = 2

// gathered is what came of a sequence that has not ended. Its lists leave with the action that tells them: the parser keeps none of them behind that.
type gathered struct {
	none    bool // nothing will be told of it
	private byte
	params  []int // at most one more than are told: the digits of all later ones go there
	mid     []byte
	text    []rune
}

// copied is the same in memory of its own.
func (g *gathered) copied() gathered {
	return gathered{
		none:    g.none,
		private: g.private,
		params:  slices.Clone(g.params),
		mid:     slices.Clone(g.mid),
		text:    slices.Clone(g.text),
	}
}

func (g *gathered) addMid(c rune) {
	if len(g.mid) == maxMid {
		g.none = true
		return
	}
	g.mid = append(g.mid, byte(c))
}

func (g *gathered) addPrivate(c rune) {
	if g.private != 0 || len(g.params) > 0 || len(g.mid) > 0 {
		g.none = true
		return
	}
	g.private = byte(c)
}

func (g *gathered) addDigit(c rune) {
	g.beginParams()
	last := len(g.params) - 1
	g.params[last] = min(10*g.params[last]+int(c-'0'), api.MaxParam)
}

func (g *gathered) addParam() {
	g.beginParams()
	if len(g.params) <= api.MaxParams {
		g.params = append(g.params, 0)
	}
}

// beginParams makes the first parameter, if there is none yet. Behind a Mid there may be none.
func (g *gathered) beginParams() {
	if len(g.mid) > 0 {
		g.none = true
	}
	if len(g.params) == 0 {
		g.params = append(g.params, 0)
	}
}

func (g *gathered) addText(c rune) {
	if len(g.text) < api.MaxTitle {
		g.text = append(g.text, c)
	}
}

// sequence is what is told of a sequence behind its Final.
func (g *gathered) sequence(kind api.ActionKind, final rune) api.Action {
	if g.none {
		return api.Action{}
	}
	return api.Action{
		Kind:    kind,
		Private: g.private,
		Final:   byte(final),
		Mid:     cut(g.mid, maxMid),
		Params:  cut(g.params, api.MaxParams),
	}
}

// command is what is told of a command behind its end.
func (g *gathered) command() api.Action {
	return api.Action{Kind: api.AOsc, Text: cut(g.text, api.MaxTitle)}
}

// cut is the first ones of l, at most so many, with no room behind them, where what is not told may stand.
func cut[T any](l []T, most int) []T {
	size := min(len(l), most)
	return l[:size:size]
}
