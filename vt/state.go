package vt

import "wayfarer/api"

// state is where a parser is.
type state uint8

// The states.
const (
	nowhere state = iota // where a zero parser is, which is as one that is not there
	ground
	escape
	middle
	csi
	osc
	str
)

const (
	bell       = 7
	cancel     = 24
	substitute = 26
	begin      = 27

	firstShown = 32 // a lower one is a control, or ends or begins something in every state
	lastMid    = 47
	lastFinal  = 126
	unheard    = 127 // no state says anything of it
	firstHigh  = 128
	firstPrint = 160 // of the high ones
)

// step is what is told of a character: an action of the kind NoAction, if nothing is.
func (p *Parser) step(c rune) api.Action {
	if c < 0 {
		c = unheard
	}
	switch {
	case c == begin:
		return p.stepBegin()
	case c == cancel || c == substitute:
		p.turnTo(ground)
		return api.Action{}
	case c < firstShown && p.state != osc && p.state != str:
		return api.Action{Kind: api.AExec, Char: c}
	}
	switch p.state {
	case ground:
		return stepGround(c)
	case escape:
		return p.stepEscape(c)
	case middle:
		return p.stepMiddle(c)
	case csi:
		return p.stepCsi(c)
	case osc:
		return p.stepOsc(c)
	}
	return api.Action{}
}

// stepBegin begins an escape, ahead of which a command ends as if its own end had come.
func (p *Parser) stepBegin() api.Action {
	var told api.Action
	if p.state == osc {
		told = p.command()
	}
	p.turnTo(escape)
	return told
}

func stepGround(c rune) api.Action {
	switch {
	case c >= firstShown && c <= lastFinal, c >= firstPrint:
		return api.Action{Kind: api.APrint, Char: c}
	default:
		return api.Action{}
	}
}

func (p *Parser) stepEscape(c rune) api.Action {
	switch c {
	case '[':
		p.turnTo(csi)
	case ']':
		p.turnTo(osc)
	case 'P', 'X', '^', '_':
		p.turnTo(str)
	default:
		// Any other one does what it does behind a Mid, of which there is none yet.
		return p.stepMiddle(c)
	}
	return api.Action{}
}

func (p *Parser) stepMiddle(c rune) api.Action {
	switch {
	case c >= firstShown && c <= lastMid:
		p.state = middle
		p.addMid(c)
	case c > lastMid && c <= lastFinal:
		return p.end(api.AEsc, c)
	case c >= firstHigh:
		p.turnTo(ground)
	}
	return api.Action{}
}

func (p *Parser) stepCsi(c rune) api.Action {
	switch {
	case c >= firstShown && c <= lastMid:
		p.addMid(c)
	case c >= '0' && c <= '9':
		p.addDigit(c)
	case c == ':':
		p.none = true
	case c == ';':
		p.addParam()
	case c >= '<' && c <= '?':
		p.addPrivate(c)
	case c >= '@' && c <= lastFinal:
		return p.end(api.ACsi, c)
	case c >= firstHigh:
		p.turnTo(ground)
	}
	return api.Action{}
}

func (p *Parser) stepOsc(c rune) api.Action {
	switch {
	case c == bell:
		told := p.command()
		p.turnTo(ground)
		return told
	case c >= firstShown && c != unheard:
		p.addText(c)
	}
	return api.Action{}
}

// end goes to the ground, and is the sequence that c is the Final of.
func (p *Parser) end(kind api.ActionKind, c rune) api.Action {
	told := p.sequence(kind, c)
	p.turnTo(ground)
	return told
}

// turnTo goes to a state with nothing gathered.
func (p *Parser) turnTo(s state) {
	p.state = s
	p.gathered = gathered{}
}
