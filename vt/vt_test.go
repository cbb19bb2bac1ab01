package vt

import (
	"math"
	"reflect"
	"slices"
	"strings"
	"testing"

	"wayfarer/api"
)

// of is characters as they are written, E being 27.
func of(s string) []rune {
	return []rune(strings.ReplaceAll(s, "E", "\x1b"))
}

func printed(c rune) api.Action {
	return api.Action{Kind: api.APrint, Char: c}
}

func execed(c rune) api.Action {
	return api.Action{Kind: api.AExec, Char: c}
}

func escaped(mid string, final byte) api.Action {
	return api.Action{Kind: api.AEsc, Mid: []byte(mid), Final: final}
}

func controlled(private byte, mid string, final byte, params ...int) api.Action {
	return api.Action{Kind: api.ACsi, Private: private, Mid: []byte(mid), Final: final, Params: params}
}

func commanded(text string) api.Action {
	return api.Action{Kind: api.AOsc, Text: []rune(text)}
}

// just is a list of actions.
func just(l ...api.Action) []api.Action {
	return l
}

// noise is numbers that look like chance and are always the same ones.
type noise uint64

func (n *noise) next() uint64 {
	*n = *n*6364136223846793005 + 1442695040888963407
	return uint64(*n >> 32)
}

func (n *noise) of(l []rune) rune {
	return l[n.next()%uint64(len(l))]
}

// clone is an action in memory of its own.
func clone(a api.Action) api.Action {
	a.Mid, a.Params, a.Text = slices.Clone(a.Mid), slices.Clone(a.Params), slices.Clone(a.Text)
	return a
}

func cloneAll(l []api.Action) (out []api.Action) {
	for _, a := range l {
		out = append(out, clone(a))
	}
	return out
}

func spoilList[T byte | int | rune](l []T) {
	for i := range l[:cap(l)] {
		l[:cap(l)][i] ^= 0x55
	}
}

// spoil turns all of what was told about, what is in the room behind the ends too.
func spoil(l []api.Action) {
	l = l[:cap(l)]
	for i, a := range l {
		spoilList(a.Mid)
		spoilList(a.Params)
		spoilList(a.Text)
		l[i] = api.Action{Kind: 99, Char: 99, Private: 99, Final: 99}
	}
}

// checkTold holds actions to others and to the limits of P13.2.
func checkTold(t *testing.T, l []rune, got, want []api.Action) {
	t.Helper()
	if !slices.EqualFunc(got, want, slowSame) || !slices.EqualFunc(got, want, Same) {
		t.Fatalf("%d: told %v, want %v", l, got, want)
	}
	for _, a := range got {
		if len(a.Params) > 16 || len(a.Mid) > 2 || len(a.Text) > 256 {
			t.Fatalf("%d: told too much: %v", l, a)
		}
		for _, n := range a.Params {
			if n < 0 || n > 9999 {
				t.Fatalf("%d: told the parameter %d", l, n)
			}
		}
	}
}

// check holds All to actions and to the slow reading, one parser that is handed the characters one by one too, what was handed to staying as it is, and what is told to being its own.
func check(t *testing.T, l []rune, want ...api.Action) {
	t.Helper()
	checkTold(t, l, slowAll(l), want)
	handed := slices.Concat(l, []rune{27, '[', 'm', 'x'})[:len(l)]
	whole := slices.Clone(handed[:cap(handed)])
	told := All(handed...)
	again := All(handed...)
	checkTold(t, l, told, want)
	spoil(told)
	checkTold(t, l, again, want)
	if !slices.Equal(handed[:cap(handed)], whole) {
		t.Fatalf("%d: All changed what it was handed", l)
	}
	p, slow := New(), &slowParser{}
	var all []api.Action
	for i, c := range l {
		x := p.Take(c)
		if len(x) > 1 {
			t.Fatalf("%d: Take(%d) tells %d actions", l[:i], c, len(x))
		}
		checkTold(t, l[:i+1], x, slow.take(c))
		all = append(all, cloneAll(x)...)
		spoil(x)
		if p.Ground() != (slow.state() == inGround) {
			t.Fatalf("%d: Ground() = %v", l[:i+1], p.Ground())
		}
	}
	checkTold(t, l, all, want)
}

// P13.1: the examples of the chapter.
func TestExamples(t *testing.T) {
	check(t, of("aE[1;31m"), printed('a'), controlled(0, "", 'm', 1, 31))
	check(t, of("E[?25hE[mE[;5HE[1?h"), controlled('?', "", 'h', 25), controlled(0, "", 'm'), controlled(0, "", 'H', 0, 5))
	check(t, of("E[?25h"), controlled('?', "", 'h', 25))
	check(t, of("E[m"), controlled(0, "", 'm'))
	check(t, of("E[;5H"), controlled(0, "", 'H', 0, 5))
	check(t, of("E[1?h"))
	check(t, of("E(BE7E]0;hi\a"), escaped("(", 'B'), escaped("", '7'), commanded("0;hi"))
	check(t, of("E(B"), escaped("(", 'B'))
	check(t, of("E7"), escaped("", '7'))
	check(t, of("E]0;hi\a"), commanded("0;hi"))
	check(t, of("E[2\nJ"), execed(10), controlled(0, "", 'J', 2))
}

// rule is what the characters from low to high do in a state: what is told of one, and what is told behind it of an m and a 7, by which each state and what it gathered is known.
type rule struct {
	low, high rune
	told      func(c rune) []api.Action
	behind    func(c rune) []api.Action
}

// always is the same actions of each character.
func always(l ...api.Action) func(rune) []api.Action {
	return func(rune) []api.Action { return l }
}

// each is one action of each character.
func each(f func(c rune) api.Action) func(rune) []api.Action {
	return func(c rune) []api.Action { return just(f(c)) }
}

// then is one action of each character, and the 7 behind it.
func then(f func(c rune) api.Action) func(rune) []api.Action {
	return func(c rune) []api.Action { return just(f(c), execed(7)) }
}

const highest = math.MaxInt32

// place is how a new parser comes to a state, and what the characters do there.
type place struct {
	state string
	way   string
	rules []rule
}

// places is the table of states by hand, each once with nothing gathered and once with something, if the state can gather.
func places() []place {
	nothing := always()
	toGround := always(printed('m'), execed(7))
	toEscape := always(escaped("", 'm'), execed(7))
	toMiddle := then(func(c rune) api.Action { return escaped(string(c), 'm') })
	toCsi := always(controlled(0, "", 'm'), execed(7))
	toOsc := always(commanded("m"))
	toString := always()
	toNone := always(execed(7))
	exec := each(execed)
	esc := each(func(c rune) api.Action { return escaped("", byte(c)) })

	// everywhere is what 24, 26, 27 and the controls do where these are told.
	everywhere := func(stays func(rune) []api.Action) []rule {
		return []rule{
			{0, 23, exec, stays}, {24, 24, nothing, toGround}, {25, 25, exec, stays},
			{26, 26, nothing, toGround}, {27, 27, nothing, toEscape}, {28, 31, exec, stays},
			{127, 127, nothing, stays}, {math.MinInt32, -1, nothing, stays},
		}
	}
	middle := func(mid string) []rule {
		stays := always(escaped(mid, 'm'), execed(7))
		return append(everywhere(stays),
			rule{48, 126, each(func(c rune) api.Action { return escaped(mid, byte(c)) }), toGround},
			rule{128, highest, nothing, toGround})
	}
	csi := func(private byte, mid string, params ...int) []rule {
		stays := always(controlled(private, mid, 'm', params...), execed(7))
		return append(everywhere(stays),
			rule{58, 58, nothing, toNone},
			rule{64, 126, each(func(c rune) api.Action { return controlled(private, mid, byte(c), params...) }), toGround},
			rule{128, highest, nothing, toGround})
	}
	osc := func(text string) []rule {
		told, stays := always(commanded(text)), always(commanded(text+"m"))
		// Of numbers that are no characters a text cannot be made.
		gathers := func(c rune) []api.Action {
			return just(api.Action{Kind: api.AOsc, Text: slices.Concat([]rune(text), []rune{c, 'm'})})
		}
		return []rule{
			{math.MinInt32, 6, nothing, stays}, {7, 7, told, toGround}, {8, 23, nothing, stays},
			{24, 24, nothing, toGround}, {25, 25, nothing, stays}, {26, 26, nothing, toGround},
			{27, 27, told, toEscape}, {28, 31, nothing, stays}, {32, 126, nothing, gathers},
			{127, 127, nothing, stays}, {128, highest, nothing, gathers},
		}
	}
	str := []rule{
		{math.MinInt32, 23, nothing, toString}, {24, 24, nothing, toGround}, {25, 25, nothing, toString},
		{26, 26, nothing, toGround}, {27, 27, nothing, toEscape}, {28, highest, nothing, toString},
	}
	csiGathers := func(mid string, params ...int) func(rune) []api.Action {
		return then(func(c rune) api.Action { return controlled(0, mid+string(c), 'm', params...) })
	}
	return []place{
		{inGround, "", append(everywhere(toGround), rule{32, 126, each(printed), toGround}, rule{128, 159, nothing, toGround}, rule{160, highest, each(printed), toGround})},
		{inGround, "aE[1;2m", append(everywhere(toGround), rule{32, 126, each(printed), toGround}, rule{128, 159, nothing, toGround}, rule{160, highest, each(printed), toGround})},
		{inEscape, "E", append(everywhere(toEscape),
			rule{32, 47, nothing, toMiddle}, rule{48, 79, esc, toGround}, rule{80, 80, nothing, toString},
			rule{81, 87, esc, toGround}, rule{88, 88, nothing, toString}, rule{89, 90, esc, toGround},
			rule{91, 91, nothing, toCsi}, rule{92, 92, esc, toGround}, rule{93, 93, nothing, toOsc},
			rule{94, 95, nothing, toString}, rule{96, 126, esc, toGround}, rule{128, highest, nothing, toGround})},
		{inMiddle, "E(", append(middle("("), rule{32, 47, nothing, then(func(c rune) api.Action { return escaped("("+string(c), 'm') })})},
		{inMiddle, "E( ", append(middle("( "), rule{32, 47, nothing, toNone})},
		{inCsi, "E[", append(csi(0, ""),
			rule{32, 47, nothing, csiGathers("")},
			rule{48, 57, nothing, then(func(c rune) api.Action { return controlled(0, "", 'm', int(c-48)) })},
			rule{59, 59, nothing, always(controlled(0, "", 'm', 0, 0), execed(7))},
			rule{60, 63, nothing, then(func(c rune) api.Action { return controlled(byte(c), "", 'm') })})},
		{inCsi, "E[?", append(csi('?', ""),
			rule{32, 47, nothing, then(func(c rune) api.Action { return controlled('?', string(c), 'm') })},
			rule{48, 57, nothing, then(func(c rune) api.Action { return controlled('?', "", 'm', int(c-48)) })},
			rule{59, 59, nothing, always(controlled('?', "", 'm', 0, 0), execed(7))},
			rule{60, 63, nothing, toNone})},
		{inCsi, "E[4;56", append(csi(0, "", 4, 56),
			rule{32, 47, nothing, csiGathers("", 4, 56)},
			rule{48, 57, nothing, then(func(c rune) api.Action { return controlled(0, "", 'm', 4, 560+int(c-48)) })},
			rule{59, 59, nothing, always(controlled(0, "", 'm', 4, 56, 0), execed(7))},
			rule{60, 63, nothing, toNone})},
		{inCsi, "E[4 ", append(csi(0, " ", 4),
			rule{32, 47, nothing, csiGathers(" ", 4)},
			rule{48, 57, nothing, toNone}, rule{59, 59, nothing, toNone}, rule{60, 63, nothing, toNone})},
		{inCsi, "E[ /", append(csi(0, " /"),
			rule{32, 47, nothing, toNone},
			rule{48, 57, nothing, toNone}, rule{59, 59, nothing, toNone}, rule{60, 63, nothing, toNone})},
		{inOsc, "E]", osc("")},
		{inOsc, "E]0;hi", osc("0;hi")},
		{inString, "EP", str},
		{inString, "EX", str},
		{inString, "E^", str},
		{inString, "E_", str},
		{inString, "EP0;[]a\u00e9", str},
	}
}

// telling is all low numbers and others at edges, those among them that a cut to fewer bits would make others of.
func telling() (l []rune) {
	for c := rune(-300); c < 700; c++ {
		l = append(l, c)
	}
	return append(l, math.MinInt32, math.MinInt32+1, math.MinInt32+27, -65536, -256+27, -256+'m', 1024+7,
		55295, 55296, 57343, 57344, 65533, 65535, 65536, 65536+7, 65536+27, 65536+'[', 65536+'m',
		1114111, 1114112, 1<<24+24, 1<<30+27, math.MaxInt32-1, math.MaxInt32)
}

// P13.1: each row of the table of states, in every state, over all characters that tell: what is told, where the parser is behind it, and what it has gathered there.
func TestTable(t *testing.T) {
	for _, x := range places() {
		for _, c := range telling() {
			i := slices.IndexFunc(x.rules, func(r rule) bool { return c >= r.low && c <= r.high })
			if i < 0 {
				t.Fatalf("%s: no row has %d", x.state, c)
			}
			r := x.rules[i]
			way := of(x.way)
			told := slices.Concat(slowAll(way), r.told(c))
			check(t, slices.Concat(way, []rune{c}), told...)
			check(t, slices.Concat(way, []rune{c, 'm', 7}), slices.Concat(told, r.behind(c))...)
		}
	}
}

// P13.1: the rows at both ends of their spans, one ahead and one behind, in the order of the document.
func TestSpans(t *testing.T) {
	check(t, []rune{31, 32, 126, 127, 128, 159, 160, 161}, execed(31), printed(32), printed(126), printed(160), printed(161))
	for _, x := range []struct {
		c    rune
		told []api.Action
	}{
		{47, nil}, {48, just(escaped("", 48))}, {79, just(escaped("", 79))}, {80, nil}, {81, just(escaped("", 81))},
		{87, just(escaped("", 87))}, {88, nil}, {89, just(escaped("", 89))}, {90, just(escaped("", 90))}, {91, nil},
		{92, just(escaped("", 92))}, {93, nil}, {94, nil}, {95, nil}, {96, just(escaped("", 96))}, {126, just(escaped("", 126))}, {127, nil}, {128, nil},
	} {
		check(t, []rune{27, x.c}, x.told...)
	}
	check(t, []rune{27, 31}, execed(31))
	check(t, []rune{27, '#', 31, 127, 126}, execed(31), escaped("#", 126))
	check(t, []rune{27, '#', 48, 48}, escaped("#", 48), printed(48))
	check(t, []rune{27, '#', 128, 48}, printed(48))
	check(t, []rune{27, '[', 63, 64, 64}, controlled(63, "", 64), printed(64))
	check(t, []rune{27, '[', 126, 126}, controlled(0, "", 126), printed(126))
	check(t, []rune{27, '[', 127, 128, 126}, printed(126))
	check(t, []rune{27, ']', 6, 8, 31, 32, 126, 127, 128, 159, 160, 7}, api.Action{Kind: api.AOsc, Text: []rune{32, 126, 128, 159, 160}})
}

// P13.1, P13.2: 24 and 26 leave a parser as a new one, and tell nothing, 27 begins an escape, wherever it was and whatever it gathered.
func TestEndsAndBeginnings(t *testing.T) {
	for _, x := range places() {
		for _, end := range []rune{24, 26} {
			p := New()
			for _, c := range of(x.way) {
				p.Take(c)
			}
			if l := p.Take(end); len(l) != 0 || !p.Ground() {
				t.Errorf("%q: Take(%d) = %v, Ground() = %v", x.way, end, l, p.Ground())
			}
			if !reflect.DeepEqual(p, New()) {
				t.Errorf("%q: behind a %d the parser is not as a new one", x.way, end)
			}
		}
		p, q := New(), New()
		for _, c := range of(x.way) {
			p.Take(c)
		}
		l := p.Take(27)
		if (x.state == inOsc) != (len(l) == 1 && l[0].Kind == api.AOsc) || len(l) > 1 || x.state != inOsc && len(l) != 0 {
			t.Errorf("%q: Take(27) = %v", x.way, l)
		}
		q.Take(27)
		if !reflect.DeepEqual(p, q) || p.Ground() {
			t.Errorf("%q: behind a 27 the parser is not in an escape with nothing gathered", x.way)
		}
	}
	check(t, of("E]0;aE[1mE]bE\\"), commanded("0;a"), controlled(0, "", 'm', 1), commanded("b"), escaped("", '\\'))
	check(t, of("E]EE]E]\x18E]a\x1a"), commanded(""), commanded(""))
	check(t, of("E[?1E[2m"), controlled(0, "", 'm', 2))
	check(t, of("E[:E[2m"), controlled(0, "", 'm', 2))
	check(t, of("E###EcE#Em"), escaped("", 'c'), escaped("", 'm'))
	check(t, of("E[1\x18mE[1\x1am"), printed('m'), printed('m'))
	check(t, of("EPaEXbE^cE_dE[A"), controlled(0, "", 'A'))
	check(t, of("EP\aE\\"), escaped("", '\\'))
}

// P13.1: a control is told in every state but osc and string, and leaves what was gathered as it was.
func TestControls(t *testing.T) {
	for c := range rune(32) {
		if c == 24 || c == 26 || c == 27 {
			continue
		}
		in := string(c)
		check(t, of("a"+in+"b"), printed('a'), execed(c), printed('b'))
		check(t, of("E"+in+"M"), execed(c), escaped("", 'M'))
		check(t, of("E#"+in+"8"), execed(c), escaped("#", '8'))
		check(t, of("E# "+in+"8"), execed(c), escaped("# ", '8'))
		check(t, of("E"+in+"["+in+"?"+in+"1"+in+"2"+in+";"+in+"3"+in+" "+in+"h"),
			execed(c), execed(c), execed(c), execed(c), execed(c), execed(c), execed(c), execed(c), controlled('?', " ", 'h', 12, 3))
		check(t, of("E["+in+"?h"), execed(c), controlled('?', "", 'h'))
		check(t, of("E[:"+in+"hi"), execed(c), printed('i'))
		check(t, of("EP"+in+"aE"+in+"M"), execed(c), escaped("", 'M'))
		if c == 7 {
			check(t, of("E]a\ab"), commanded("a"), printed('b'))
		} else {
			check(t, of("E]a"+in+"b\a"), commanded("ab"))
		}
	}
}

// P13.1: numbers below 0 are as 127, which no state says anything of; the greatest are as others above 159.
func TestNumbers(t *testing.T) {
	for _, c := range []rune{127, -1, -2, -27, -101, -128, -159, -160, -65536, math.MinInt32, math.MinInt32 + 1} {
		check(t, []rune{c})
		check(t, []rune{'a', c, 'b'}, printed('a'), printed('b'))
		check(t, []rune{27, c, 'M'}, escaped("", 'M'))
		check(t, []rune{27, '#', c, '8'}, escaped("#", '8'))
		check(t, []rune{27, '[', c, '?', c, '1', c, '2', c, ' ', c, 'h'}, controlled('?', " ", 'h', 12))
		check(t, []rune{27, ']', 'a', c, 'b', 7}, commanded("ab"))
		check(t, []rune{27, 'P', c, 'a', 27, c, 'M'}, escaped("", 'M'))
	}
	for _, c := range []rune{128, 159, 160, 255, 256, 0x4e2d, 65533, 1114111, 1114112, math.MaxInt32} {
		var told []api.Action
		if c >= 160 {
			told = just(printed(c))
		}
		check(t, []rune{c}, told...)
		check(t, []rune{27, c, 'M'}, printed('M'))
		check(t, []rune{27, '#', c, '8'}, printed('8'))
		check(t, []rune{27, '[', '?', '1', ' ', c, 'h'}, printed('h'))
		check(t, []rune{27, '[', ':', c, 'h'}, printed('h'))
		check(t, []rune{27, ']', 'a', c, 'b', 7}, api.Action{Kind: api.AOsc, Text: []rune{'a', c, 'b'}})
		check(t, []rune{27, 'X', c, 'a', 27, 'M'}, escaped("", 'M'))
	}
}

// P13.1: parameters, none, empty ones, and how their digits grow.
func TestParams(t *testing.T) {
	for _, x := range []struct {
		text   string
		params []int
	}{
		{"", nil}, {"0", []int{0}}, {"5", []int{5}}, {"00", []int{0}}, {"007", []int{7}},
		{";", []int{0, 0}}, {";5", []int{0, 5}}, {"5;", []int{5, 0}}, {";;", []int{0, 0, 0}}, {";5;", []int{0, 5, 0}}, {"5;;6", []int{5, 0, 6}},
		{"10;20;30", []int{10, 20, 30}}, {"1234567890", []int{9999}}, {"0123;4567;89", []int{123, 4567, 89}},
		{"999", []int{999}}, {"1000", []int{1000}}, {"9998", []int{9998}}, {"9999", []int{9999}}, {"10000", []int{9999}}, {"10001", []int{9999}},
		{"99980", []int{9999}}, {"99990", []int{9999}}, {"99999", []int{9999}}, {"10000;1", []int{9999, 1}}, {"00010000", []int{9999}}, {"0000009998", []int{9998}},
		{"9223372036854775807", []int{9999}}, {"9223372036854775808;18446744073709551616", []int{9999, 9999}}, {"4294967296", []int{9999}},
		{strings.Repeat("9", 1000), []int{9999}}, {strings.Repeat("0", 1000) + "1", []int{1}},
	} {
		check(t, of("E["+x.text+"m"), controlled(0, "", 'm', x.params...))
		check(t, of("E[?"+x.text+"h"), controlled('?', "", 'h', x.params...))
		check(t, of("E["+x.text+" q"), controlled(0, " ", 'q', x.params...))
		check(t, of("E[1;"+x.text+"m"), controlled(0, "", 'm', append([]int{1}, afterFirst(x.params)...)...))
	}
}

// afterFirst is parameters behind another one: there is one, then.
func afterFirst(l []int) []int {
	if len(l) == 0 {
		return []int{0}
	}
	return l
}

// P13.1, P13.2: of more than 16 parameters the first 16 are kept, and digits of later ones count for nothing.
func TestManyParams(t *testing.T) {
	for count := 1; count <= 40; count++ {
		var texts []string
		var params []int
		for i := range count {
			texts = append(texts, []string{"7", "12", "", "99999", "0"}[i%5])
			params = append(params, []int{7, 12, 0, 9999, 0}[i%5])
		}
		first := params[:min(count, 16)]
		text := strings.Join(texts, ";")
		check(t, of("E["+text+"m"), controlled(0, "", 'm', first...))
		check(t, of("E[>"+text+"$ w"), controlled('>', "$ ", 'w', first...))
		check(t, of("E["+text+"?hE["+text+":hE["+text+"h"), controlled(0, "", 'h', first...))
		check(t, of("E["+strings.Repeat(";", count)+"m"), controlled(0, "", 'm', make([]int, min(count+1, 16))...))
	}
	empty := strings.Repeat(";", 15)
	last := make([]int, 16)
	check(t, of("E["+empty+"m"), controlled(0, "", 'm', last...))
	last[15] = 12
	check(t, of("E["+empty+"12m"), controlled(0, "", 'm', last...))
	check(t, of("E["+empty+"12;m"), controlled(0, "", 'm', last...))
	check(t, of("E["+empty+"12;34m"), controlled(0, "", 'm', last...))
	check(t, of("E["+empty+"12;3;4;;5678m"), controlled(0, "", 'm', last...))
	check(t, of("E["+empty+"12"+strings.Repeat(";99999", 200)+"m"), controlled(0, "", 'm', last...))
}

// P13.1: a Private one first, and later ones, which make a sequence none.
func TestPrivate(t *testing.T) {
	for c := byte(60); c <= 63; c++ {
		x := string(rune(c))
		check(t, of("E["+x+"h"), controlled(c, "", 'h'))
		check(t, of("E["+x+"1;2h"), controlled(c, "", 'h', 1, 2))
		check(t, of("E["+x+";h"), controlled(c, "", 'h', 0, 0))
		check(t, of("E["+x+"$p"), controlled(c, "$", 'p'))
		check(t, of("E["+x+"1 $p"), controlled(c, " $", 'p', 1))
		for _, ahead := range []string{"0", "1", ";", "12;3", " ", "1 ", "$ ", ":", "<", "=", ">", "?"} {
			check(t, of("E["+ahead+x+"hi"), printed('i'))
			check(t, of("E["+ahead+x+"1;2 hi"), printed('i'))
			check(t, of("E["+ahead+x+x+"hE[1m"), controlled(0, "", 'm', 1))
		}
	}
}

// P13.1: none, one, two and three of Mid, and what may not stand behind one.
func TestMid(t *testing.T) {
	for c := byte(32); c <= 47; c++ {
		x := string(rune(c))
		check(t, of("E["+x+"q"), controlled(0, x, 'q'))
		check(t, of("E[1;2"+x+"q"), controlled(0, x, 'q', 1, 2))
		check(t, of("E[!"+x+"q"), controlled(0, "!"+x, 'q'))
		check(t, of("E["+x+"!q"), controlled(0, x+"!", 'q'))
		check(t, of("E[?9"+x+x+"q"), controlled('?', x+x, 'q', 9))
		check(t, of("E[!!"+x+"qr"), printed('r'))
		check(t, of("E["+x+"!!qr"), printed('r'))
		check(t, of("E["+x+x+x+x+x+"qr"), printed('r'))
		for _, behind := range []string{"0", "9", ";", ":", "<", "?", "0;1", ";;", "?1"} {
			check(t, of("E["+x+behind+"qr"), printed('r'))
			check(t, of("E[1"+x+"!"+behind+"qr"), printed('r'))
			check(t, of("E["+x+behind+"!qr"), printed('r'))
		}

		check(t, of("E"+x+"F"), escaped(x, 'F'))
		check(t, of("E"+x+"0"), escaped(x, '0'))
		check(t, of("E"+x+"[r"), escaped(x, '['), printed('r'))
		check(t, of("E"+x+"]r"), escaped(x, ']'), printed('r'))
		check(t, of("E"+x+"Pr"), escaped(x, 'P'), printed('r'))
		check(t, of("E!"+x+"F"), escaped("!"+x, 'F'))
		check(t, of("E"+x+"!~"), escaped(x+"!", '~'))
		check(t, of("E!!"+x+"Fr"), printed('r'))
		check(t, of("E"+x+"!!Fr"), printed('r'))
		check(t, of("E"+x+x+x+x+x+"0r"), printed('r'))
	}
	check(t, of("E[q"), controlled(0, "", 'q'))
	check(t, of("EF"), escaped("", 'F'))
}

// P13.1: a sequence that is none tells nothing, ends where it would have, and leaves nothing behind for the next one.
func TestNone(t *testing.T) {
	for _, none := range []string{
		"E[:m", "E[1:2m", "E[1;2:m", "E[?:m", "E[ :m", "E[:1m", "E[:;m", "E[:?m", "E[: m", "E[::m",
		"E[1?m", "E[??m", "E[;?m", "E[ ?m", "E[?1?m",
		"E[!!!m", "E[?1;2!!!m", "E[ 1m", "E[ ;m", "E[1 2m", "E[!!1;m",
		"E!!!m", "E####m", "E###0", "E   [", "E   ]", "E   P",
	} {
		check(t, of(none))
		check(t, of(none+"a"), printed('a'))
		check(t, of(none+none))
		check(t, of(none+"E[m"), controlled(0, "", 'm'))
		check(t, of(none+"E[;3m"), controlled(0, "", 'm', 0, 3))
		check(t, of(none+"E[?h"), controlled('?', "", 'h'))
		check(t, of(none+"E[!!p"), controlled(0, "!!", 'p'))
		check(t, of(none+"E!!p"), escaped("!!", 'p'))
		check(t, of(none+"Ec"), escaped("", 'c'))
		check(t, of(none+"E]x\a"), commanded("x"))
		for i := range of(none) {
			cut := of(none)[:i+1]
			for _, end := range []rune{24, 26, 27} {
				told := slowAll(append(slices.Clone(cut), end))
				check(t, slices.Concat(cut, []rune{end, 27}, of("[1;2 q")), append(told, controlled(0, " ", 'q', 1, 2))...)
			}
		}
	}
}

// P13.1, P13.2: a command's text, up to 256 characters of it.
func TestText(t *testing.T) {
	for _, size := range []int{0, 1, 2, 254, 255, 256, 257, 258, 300, 511, 512, 513, 5000} {
		var text []rune
		for i := range size {
			text = append(text, []rune{'a', ';', 0x4e2d, 160, 128, 159, '[', ']', '~', ' ', 1114112, math.MaxInt32}[i%12])
		}
		want := api.Action{Kind: api.AOsc, Text: text[:min(size, 256)]}
		check(t, slices.Concat(of("E]"), text, []rune{7}), want)
		check(t, slices.Concat(of("E]"), text, []rune{7, 'x'}), want, printed('x'))
		check(t, slices.Concat(of("E]"), text, of("E\\")), want, escaped("", '\\'))
		check(t, slices.Concat(of("E]"), text, []rune{24, 'x'}), printed('x'))
		check(t, slices.Concat(of("E]"), text, []rune{26, 'x'}), printed('x'))
		check(t, slices.Concat(of("E]"), text, of("EE]"), text, of("E]y\a")), want, want, commanded("y"))
	}
	check(t, of("E]\a\a"), commanded(""), execed(7))
	check(t, of("E]]0[P\a"), commanded("]0[P"))
}

// P13.1: nothing that was gathered for one kind is told with another.
func TestKindsApart(t *testing.T) {
	check(t, of("E[?1 hE[mE(BEcE]t\aE[mEc"), controlled('?', " ", 'h', 1), controlled(0, "", 'm'), escaped("(", 'B'), escaped("", 'c'), commanded("t"), controlled(0, "", 'm'), escaped("", 'c'))
	check(t, of("E(E[mE(E]\aE(Ec"), controlled(0, "", 'm'), commanded(""), escaped("", 'c'))
	check(t, of("E[?1;2!E#8"), escaped("#", '8'))
	check(t, of("E[?1;2!E]\a"), commanded(""))
	check(t, of("E[?1;2!\u00e9E[m"), controlled(0, "", 'm'))
	check(t, of("E]titleE[m"), commanded("title"), controlled(0, "", 'm'))
}
