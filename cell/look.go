package cell

import "wayfarer/api"

// The parameters that make a flag true. Each one is the place of the flag's bit, too, where flags are gathered.
const (
	bold    = 1
	faint   = 2
	italic  = 3
	under   = 4
	blink   = 5
	inverse = 7
	hidden  = 8
	struck  = 9
)

// Other parameters.
const (
	reset = 0
	off   = 20          // so much more than what makes a flag true is what makes it false, but for Bold
	thin  = off + faint // Bold and Faint have this one together

	fore   = 30 // what makes Fg 0
	back   = 40 // what makes Bg 0
	bright = 60 // so much more than what makes a colour 0 is what makes it lastDark + 1
	long   = 8  // so much more is what tells a colour behind it
	unset  = 9  // so much more is what makes it noColour

	longIndex = 5 // behind a long one: a colour's number follows
	longMixed = 2 // behind a long one: three parts of a colour follow, which no style has
)

// look is a style whose flags are gathered in one number.
type look struct {
	fg, bg int
	flags  uint16
}

func lookOf(s api.Style) look {
	flags := bit(s.Bold)<<bold | bit(s.Faint)<<faint |
		bit(s.Italic)<<italic | bit(s.Under)<<under |
		bit(s.Blink)<<blink | bit(s.Inverse)<<inverse |
		bit(s.Hidden)<<hidden | bit(s.Struck)<<struck
	return look{fg: s.Fg, bg: s.Bg, flags: flags}
}

func bit(on bool) uint16 {
	if on {
		return 1
	}
	return 0
}

// style is the style that l was gathered from.
func (l look) style() api.Style {
	return api.Style{
		Fg: l.fg, Bg: l.bg,
		Bold: l.has(bold), Faint: l.has(faint),
		Italic: l.has(italic), Under: l.has(under),
		Blink: l.has(blink), Inverse: l.has(inverse),
		Hidden: l.has(hidden), Struck: l.has(struck),
	}
}

func (l look) has(flag int) bool {
	return l.flags>>flag&1 == 1
}

// take does what the first parameter says, and is how many are passed over with it. There is at least one.
func (l *look) take(params []int) int {
	switch n := params[0]; n {
	case reset:
		*l = lookOf(Plain())
	case bold, faint, italic, under, blink, inverse, hidden, struck:
		l.flags |= 1 << n
	case thin:
		l.flags &^= 1<<bold | 1<<faint
	case off + italic, off + under, off + blink, off + inverse, off + hidden, off + struck:
		l.flags &^= 1 << (n - off)
	case fore + long:
		return takeLong(&l.fg, params)
	case back + long:
		return takeLong(&l.bg, params)
	case fore + unset:
		l.fg = noColour
	case back + unset:
		l.bg = noColour
	default:
		l.takeShort(n)
	}
	return 1
}

// takeShort does what a parameter says that is a colour by itself.
func (l *look) takeShort(n int) {
	switch {
	case n >= fore && n <= fore+lastDark:
		l.fg = n - fore
	case n >= back && n <= back+lastDark:
		l.bg = n - back
	case n >= fore+bright && n <= fore+bright+lastDark:
		l.fg = n - fore - bright + lastDark + 1
	case n >= back+bright && n <= back+bright+lastDark:
		l.bg = n - back - bright + lastDark + 1
	}
}

// takeLong does what stands behind the first parameter, which tells a colour in a long way, and is how many are passed over with it.
func takeLong(colour *int, params []int) int {
	switch {
	case len(params) > 2 && params[1] == longIndex:
		if isColour(params[2]) {
			*colour = params[2]
		}
		return 3
	case len(params) > 1 && params[1] == longMixed:
		return min(len(params), 5)
	}
	return 1
}

// steps is the parameters that make to of from, one thing behind the other. Both may be.
func steps(from, to look) []int {
	var params []int
	if from.flags&^to.flags&(1<<bold|1<<faint) != 0 {
		params = append(params, thin)
		// The one of the two that stays is made true again.
		from.flags &^= 1<<bold | 1<<faint
	}
	for flag := bold; flag <= struck; flag++ {
		switch {
		case to.has(flag) && !from.has(flag):
			params = append(params, flag)
		case from.has(flag) && !to.has(flag):
			params = append(params, off+flag)
		}
	}
	if from.fg != to.fg {
		params = append(params, colourParams(fore, to.fg)...)
	}
	if from.bg != to.bg {
		params = append(params, colourParams(back, to.bg)...)
	}
	return params
}

// colourParams is what makes a colour of the ground fore or back.
func colourParams(ground, colour int) []int {
	switch {
	case colour == noColour:
		return []int{ground + unset}
	case colour <= lastDark:
		return []int{ground + colour}
	case colour <= lastBright:
		return []int{ground + bright + colour - lastDark - 1}
	}
	return []int{ground + long, longIndex, colour}
}
