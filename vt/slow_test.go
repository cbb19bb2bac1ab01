package vt

import (
	"math/big"
	"reflect"
	"regexp"
	"strings"

	"wayfarer/api"
)

// The document's words, read slowly: a parser keeps all that came behind the last 27, and finds out anew at each character what that is.

// Where a parser is, by the document's names.
const (
	inGround = "ground"
	inEscape = "escape"
	inMiddle = "middle"
	inCsi    = "csi"
	inOsc    = "osc"
	inString = "string"
)

var (
	slowEnded = regexp.MustCompile(`^([0-OQ-WYZ\\\x60-~]|[ -/]+[0-~]|\[[ -?]*[@-~])$`)
	slowEsc   = regexp.MustCompile(`^([ -/]{0,2})([0-~])$`)
	slowCsi   = regexp.MustCompile(`^\[([<-?]?)([0-9;]*)([ -/]{0,2})([@-~])$`)
)

// slowParser is what came behind a 27 that nothing has ended yet, of what counts.
type slowParser struct {
	begun bool
	came  []rune
}

func (s *slowParser) state() string {
	switch {
	case !s.begun:
		return inGround
	case len(s.came) == 0:
		return inEscape
	}
	switch s.came[0] {
	case '[':
		return inCsi
	case ']':
		return inOsc
	case 'P', 'X', '^', '_':
		return inString
	}
	return inMiddle
}

func (s *slowParser) take(c rune) []api.Action {
	state := s.state()
	told := s.told(state, c)
	switch {
	case c == 27:
		*s = slowParser{begun: true}
	case c == 24, c == 26, state == inGround:
		*s = slowParser{}
	case state == inOsc && c == 7:
		*s = slowParser{}
	case c < 32, c == 127:
	case state == inOsc, state == inString:
		s.came = append(s.came, c)
	case c >= 128, slowEnded.MatchString(string(s.came) + string(c)):
		*s = slowParser{}
	default:
		s.came = append(s.came, c)
	}
	return told
}

// told is what is told of a character in a state, nothing being changed.
func (s *slowParser) told(state string, c rune) []api.Action {
	quiet := state == inOsc || state == inString
	switch {
	case state == inOsc && (c == 7 || c == 27):
		text := s.came[1:]
		return []api.Action{{Kind: api.AOsc, Text: append([]rune{}, text[:min(len(text), 256)]...)}}
	case c < 0, c == 24, c == 26, c == 27, c == 127, quiet:
		return nil
	case c < 32:
		return []api.Action{{Kind: api.AExec, Char: c}}
	case state == inGround:
		if c >= 128 && c <= 159 {
			return nil
		}
		return []api.Action{{Kind: api.APrint, Char: c}}
	case c >= 128:
		return nil
	}
	return slowSequence(string(s.came) + string(c))
}

// slowSequence is what is told of all that stands behind a 27, if it is a whole sequence.
func slowSequence(text string) []api.Action {
	if !slowEnded.MatchString(text) {
		return nil
	}
	if m := slowEsc.FindStringSubmatch(text); m != nil {
		return []api.Action{{Kind: api.AEsc, Mid: []byte(m[1]), Final: m[2][0]}}
	}
	m := slowCsi.FindStringSubmatch(text)
	if m == nil {
		return nil
	}
	a := api.Action{Kind: api.ACsi, Params: slowParams(m[2]), Mid: []byte(m[3]), Final: m[4][0]}
	if m[1] != "" {
		a.Private = m[1][0]
	}
	return []api.Action{a}
}

func slowParams(text string) (l []int) {
	if text == "" {
		return nil
	}
	for i, digits := range strings.Split(text, ";") {
		if i == 16 {
			break
		}
		n, _ := new(big.Int).SetString("0"+digits, 10)
		if n.Cmp(big.NewInt(9999)) > 0 {
			n = big.NewInt(9999)
		}
		l = append(l, int(n.Int64()))
	}
	return l
}

func slowAll(l []rune) (out []api.Action) {
	var s slowParser
	for _, c := range l {
		out = append(out, s.take(c)...)
	}
	return out
}

// slowSame is whether two actions are the same, lists without elements being made nil.
func slowSame(a, b api.Action) bool {
	for _, x := range []*api.Action{&a, &b} {
		if len(x.Mid) == 0 {
			x.Mid = nil
		}
		if len(x.Params) == 0 {
			x.Params = nil
		}
		if len(x.Text) == 0 {
			x.Text = nil
		}
	}
	return reflect.DeepEqual(a, b)
}
