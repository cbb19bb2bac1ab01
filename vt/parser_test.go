package vt

import (
	"math"
	"reflect"
	"slices"
	"strings"
	"testing"

	"wayfarer/api"
)

// full is an action with something in each field, which no parser tells.
func full() api.Action {
	return api.Action{Kind: api.ACsi, Char: 'a', Private: '?', Final: 'm', Mid: []byte{32, 33}, Params: []int{1, 2}, Text: []rune{'x', 'y'}}
}

// turned is the full action with one thing turned, each thing once.
func turned() []api.Action {
	var l []api.Action
	for _, turn := range []func(a *api.Action){
		func(a *api.Action) { a.Kind = api.AEsc },
		func(a *api.Action) { a.Kind = api.NoAction },
		func(a *api.Action) { a.Kind = 255 },
		func(a *api.Action) { a.Char = 'b' },
		func(a *api.Action) { a.Char = -'a' },
		func(a *api.Action) { a.Char = 65536 + 'a' },
		func(a *api.Action) { a.Private = 0 },
		func(a *api.Action) { a.Private = '>' },
		func(a *api.Action) { a.Final = 0 },
		func(a *api.Action) { a.Final = 'n' },
		func(a *api.Action) { a.Private, a.Final = a.Final, a.Private },
		func(a *api.Action) { a.Mid = nil },
		func(a *api.Action) { a.Mid = []byte{32} },
		func(a *api.Action) { a.Mid = []byte{33, 32} },
		func(a *api.Action) { a.Mid = []byte{32, 34} },
		func(a *api.Action) { a.Mid = []byte{32, 33, 0} },
		func(a *api.Action) { a.Params = nil },
		func(a *api.Action) { a.Params = []int{1} },
		func(a *api.Action) { a.Params = []int{2, 2} },
		func(a *api.Action) { a.Params = []int{1, 2 + 1<<32} },
		func(a *api.Action) { a.Params = []int{1, 2, 0} },
		func(a *api.Action) { a.Text = nil },
		func(a *api.Action) { a.Text = []rune{'x'} },
		func(a *api.Action) { a.Text = []rune{'x', 'z'} },
		func(a *api.Action) { a.Text = []rune{'x', 'y', 0} },
	} {
		a := full()
		turn(&a)
		l = append(l, a)
	}
	return l
}

// P13.1: Same of each field turned by itself.
func TestSame(t *testing.T) {
	a := full()
	if !Same(a, a) || !Same(a, full()) || !Same(api.Action{}, api.Action{}) {
		t.Error("what is the same is not Same")
	}
	l := append(turned(), full(), api.Action{})
	for i, x := range l {
		for k, y := range l {
			if Same(x, y) != (i == k) || Same(x, clone(y)) != (i == k) {
				t.Errorf("Same(%v, %v) = %v", x, y, Same(x, y))
			}
		}
	}
	for i, x := range l {
		if !slowSame(x, append(turned(), full(), api.Action{})[i]) {
			t.Errorf("Same changed %v", x)
		}
	}
}

// P13.1: lists that are nil and lists without elements are the same to Same, in each field, and so is the room behind them.
func TestSameNilAndEmpty(t *testing.T) {
	some := func(a api.Action, bits int) api.Action {
		if bits&1 != 0 {
			a.Mid = []byte{9}[:0]
		}
		if bits&2 != 0 {
			a.Params = []int{}
		}
		if bits&4 != 0 {
			a.Text = make([]rune, 0, 5)
		}
		return a
	}
	for _, a := range []api.Action{{}, printed('a'), controlled('?', "", 'h'), commanded("")} {
		a.Mid, a.Params, a.Text = nil, nil, nil
		for i := range 8 {
			for k := range 8 {
				if !Same(some(a, i), some(a, k)) {
					t.Errorf("nil and empty lists are not the same: %b, %b", i, k)
				}
			}
		}
	}
	a, b := full(), full()
	a.Mid, a.Params, a.Text = append(a.Mid, 1)[:2], append(a.Params, 1)[:2], append(a.Text, 1)[:2]
	if !Same(a, b) || !Same(b, a) {
		t.Error("the room behind the ends counts")
	}
}

// P13.1: a new parser is in the ground, and Ground in every state.
func TestGround(t *testing.T) {
	if !New().Ground() {
		t.Error("a new parser is not in the ground")
	}
	for _, x := range places() {
		p := New()
		for _, c := range of(x.way) {
			p.Take(c)
		}
		for range 3 {
			if p.Ground() != (x.state == inGround) {
				t.Errorf("%q: Ground() = %v", x.way, p.Ground())
			}
		}
		p.Take(24)
		if !p.Ground() {
			t.Errorf("%q: not in the ground behind a 24", x.way)
		}
	}
	p := New()
	for _, step := range []struct {
		c      rune
		ground bool
	}{
		{'a', true}, {10, true}, {27, false}, {10, false}, {'c', true},
		{27, false}, {'(', false}, {127, false}, {'B', true},
		{27, false}, {'[', false}, {'1', false}, {':', false}, {'m', true},
		{27, false}, {'[', false}, {160, true},
		{27, false}, {']', false}, {160, false}, {7, true},
		{27, false}, {'P', false}, {7, false}, {160, false}, {27, false}, {'\\', true},
	} {
		p.Take(step.c)
		if p.Ground() != step.ground {
			t.Fatalf("behind %d Ground() = %v", step.c, p.Ground())
		}
	}
}

// takeAll hands characters to a parser one by one.
func takeAll(p *Parser, l []rune) (out []api.Action) {
	for _, c := range l {
		out = append(out, p.Take(c)...)
	}
	return out
}

// P13.1: parsers do not hang on each other.
func TestParsersApart(t *testing.T) {
	p, q := New(), New()
	if p == q {
		t.Fatal("two new parsers are one")
	}
	takeAll(p, of("E[1;2"))
	takeAll(q, of("E]hi"))
	takeAll(p, of(";3!"))
	checkTold(t, nil, takeAll(q, []rune{7}), just(commanded("hi")))
	checkTold(t, nil, takeAll(p, of("p")), just(controlled(0, "!", 'p', 1, 2, 3)))
}

// goings is what may come behind.
func goings() [][]rune {
	return [][]rune{
		of(""), of("m"), of("7m"), of("5;6!m"), of(";8m"), of(" q"), of("!!q"), of("?h"), of("x\aE[1m"), of("E\\"), of("\x18a"), of("\u00e9a"), of("yz\a"), of("99999;;m"),
	}
}

// P13.1: a copy stands as its parser, goes its own way, whichever of the two is handed characters and in whatever order, and what both told stays.
func TestCopy(t *testing.T) {
	ways := []string{"E[1;2;3", "E[" + strings.Repeat("4;", 15) + "5", "E[" + strings.Repeat("4;", 20) + "5", "E[?12!", "E[:", "E##", "E###", "E]" + strings.Repeat("t", 255), "E]" + strings.Repeat("t", 300)}
	for _, x := range places() {
		ways = append(ways, x.way)
	}
	for _, way := range ways {
		for _, one := range goings() {
			for _, other := range goings() {
				for order := range 3 {
					checkCopy(t, of(way), one, other, order)
				}
			}
		}
	}
}

// checkCopy hands one and other to a parser behind a way and to its copy: the parser first, the copy first, or by turns.
func checkCopy(t *testing.T, way, one, other []rune, order int) {
	t.Helper()
	p := New()
	takeAll(p, way)
	q := p.Copy()
	if q == nil || q == p || !reflect.DeepEqual(p, q) || q.Ground() != p.Ground() {
		t.Fatalf("%d: the copy does not stand as its parser", way)
	}
	var ofP, ofQ []api.Action
	switch order {
	case 0:
		ofP = takeAll(p, one)
		ofQ = takeAll(q, other)
	case 1:
		ofQ = takeAll(q, other)
		ofP = takeAll(p, one)
	case 2:
		for i := range max(len(one), len(other)) {
			if i < len(one) {
				ofP = append(ofP, p.Take(one[i])...)
			}
			if i < len(other) {
				ofQ = append(ofQ, q.Take(other[i])...)
			}
		}
	}
	ahead := len(slowAll(way))
	wantP, wantQ := slowAll(slices.Concat(way, one))[ahead:], slowAll(slices.Concat(way, other))[ahead:]
	checkTold(t, slices.Concat(way, one), ofP, wantP)
	checkTold(t, slices.Concat(way, other), ofQ, wantQ)
	spoil(ofP)
	checkTold(t, slices.Concat(way, other), ofQ, wantQ)
}

// P13.1: copies of copies, and a copy of a parser that told something.
func TestCopies(t *testing.T) {
	p := New()
	takeAll(p, of("aE[1mE[7;"))
	q := p.Copy()
	q.Take('8')
	r := q.Copy()
	r.Take('9')
	checkTold(t, nil, p.Take('m'), just(controlled(0, "", 'm', 7, 0)))
	checkTold(t, nil, r.Take('m'), just(controlled(0, "", 'm', 7, 89)))
	checkTold(t, nil, q.Take('m'), just(controlled(0, "", 'm', 7, 8)))
	if !p.Ground() || !q.Ground() || !r.Ground() || !reflect.DeepEqual(p.Copy(), New()) {
		t.Error("not in the ground behind a sequence")
	}
}

// P13.1: a parser that is not there, be it nil or zero.
func TestNotThere(t *testing.T) {
	var zero Parser
	for _, p := range []*Parser{nil, {}, new(Parser), &zero} {
		for _, c := range []rune{'a', 10, 27, 'c', 24, 'a', 27, '[', 'm', 27, ']', 7, 'a', -1, 160, math.MaxInt32, math.MinInt32} {
			if l := p.Take(c); len(l) != 0 || p.Ground() {
				t.Fatalf("Take(%d) of one that is not there = %v, Ground() = %v", c, l, p.Ground())
			}
		}
		if q := p.Copy(); q != nil {
			t.Fatal("there is a copy of one that is not there")
		}
	}
	if !reflect.DeepEqual(zero, Parser{}) {
		t.Error("a parser that is not there was changed")
	}
}

// P13.1: All of none, of one, of many.
func TestAll(t *testing.T) {
	if l := All(); len(l) != 0 {
		t.Errorf("All() = %v", l)
	}
	if l := All([]rune{}...); len(l) != 0 {
		t.Errorf("All of an empty list = %v", l)
	}
	check(t, nil)
	for _, c := range telling() {
		check(t, []rune{c}, slowAll([]rune{c})...)
	}
	many := strings.Repeat("abE[1;31mcE(BE]0;t\aE[2\nJ", 500)
	l := All(of(many)...)
	if len(l) != 500*8 || !slices.EqualFunc(l, slowAll(of(many)), slowSame) {
		t.Errorf("All of many tells %d actions", len(l))
	}
	checkTold(t, nil, takeAll(New(), of(many)), l)
	// A second call begins anew.
	All(of("E[1")...)
	checkTold(t, nil, All(of("2m")...), just(printed('2'), printed('m')))
}

// alphabet is characters of each row of the table.
func alphabet() []rune {
	return []rune{27, 24, 7, 10, ' ', '/', '0', '9', ':', ';', '<', '?', '@', '[', ']', 'X', '~', 127, 128, 160}
}

// P13.1, P13.2: all short rows of characters, from each state on.
func TestAllRows(t *testing.T) {
	for _, x := range places() {
		p, slow := New(), &slowParser{}
		for _, c := range of(x.way) {
			p.Take(c)
			slow.take(c)
		}
		checkRows(t, p, slow, of(x.way), 3)
	}
	checkRows(t, New(), &slowParser{}, nil, 4)
}

// checkRows hands all rows of so many characters to copies of a parser.
func checkRows(t *testing.T, p *Parser, slow *slowParser, came []rune, size int) {
	if size == 0 {
		return
	}
	for _, c := range alphabet() {
		q := p.Copy()
		s := slowParser{slow.begun, slices.Clone(slow.came)}
		row := append(slices.Clone(came), c)
		checkTold(t, row, q.Take(c), s.take(c))
		if q.Ground() != (s.state() == inGround) {
			t.Fatalf("%d: Ground() = %v", row, q.Ground())
		}
		checkRows(t, q, &s, row, size-1)
	}
}

// P13.1, P13.2: long rows of characters that look like chance.
func TestNoise(t *testing.T) {
	n := noise(13)
	sets := [][]rune{
		alphabet(),
		[]rune("0123456789;;;; !?:m"),
		[]rune("abc \x1b[]()#PX^_;0123456789mh\a\n\x18"),
		telling(),
		slices.Concat(alphabet(), alphabet(), telling()),
	}
	for round := range 2000 {
		var l []rune
		for range 1 + n.next()%60 {
			if n.next()%6 == 0 {
				l = append(l, 27)
			}
			if n.next()%6 == 0 {
				l = append(l, n.of([]rune{'[', '[', '[', ']', '(', 'P'}))
			}
			l = append(l, n.of(sets[round%len(sets)]))
		}
		check(t, l, slowAll(l)...)
	}
}

// P13.2: of characters from 32 to 126 alone each is told as printed.
func TestPrintedAlone(t *testing.T) {
	n := noise(32)
	var all []rune
	for c := rune(32); c <= 126; c++ {
		all = append(all, c)
	}
	for range 20 {
		l := slices.Clone(all)
		for range 300 {
			l = append(l, n.of(all))
		}
		var want []api.Action
		for _, c := range l {
			want = append(want, printed(c))
		}
		check(t, l, want...)
	}
	for _, a := range all {
		for _, b := range all {
			if l := All(a, b); len(l) != 2 || !slowSame(l[0], printed(a)) || !slowSame(l[1], printed(b)) {
				t.Fatalf("All(%d, %d) = %v", a, b, l)
			}
		}
	}
}

// P13.2: behind a 24 a parser tells of all that comes what a new one tells.
func TestAsNew(t *testing.T) {
	n := noise(24)
	for range 3000 {
		p := New()
		for range n.next() % 30 {
			p.Take(n.of(alphabet()))
		}
		p.Take(24)
		if !reflect.DeepEqual(p, New()) {
			t.Fatal("behind a 24 a parser is not as a new one")
		}
		var l []rune
		for range n.next() % 30 {
			l = append(l, n.of(alphabet()))
		}
		checkTold(t, l, takeAll(p, l), All(l...))
	}
}

// P13.1: what is told shares no memory with the parser, with what is told later, or with another list of it.
func TestAnswersApart(t *testing.T) {
	long := of("aE[1;2;3!mbE[?4;5 !hE(BE# 8E]title\aE]otherE[" + strings.Repeat("7;", 30) + "8mE]" + strings.Repeat("t", 300) + "\aE[9;9!pE!!p\n")
	p := New()
	var told, kept [][]api.Action
	for range 3 {
		for _, c := range long {
			l := p.Take(c)
			told, kept = append(told, l), append(kept, cloneAll(l))
		}
	}
	for i := range told {
		checkTold(t, nil, told[i], kept[i])
		spoil(told[i])
		for k := i + 1; k < min(len(told), i+500); k++ {
			if !slices.EqualFunc(told[k], kept[k], slowSame) {
				t.Fatalf("the answers %d and %d share memory", i, k)
			}
		}
	}
	checkTold(t, nil, takeAll(p, long), slowAll(long))

	one, other := All(long...), All(long...)
	for i := range one {
		spoil(one[i : i+1 : i+1])
		if !slices.EqualFunc(one[i+1:], slowAll(long)[i+1:], slowSame) {
			t.Fatalf("action %d of All shares memory with a later one", i)
		}
	}
	checkTold(t, long, other, slowAll(long))
}

// P13.1: what a caller puts behind the end of what was told is not told by the parser, and nothing that was gathered stands there.
func TestRoomBehind(t *testing.T) {
	p := New()
	for _, x := range []string{"E[1;2;3!m", "E[" + strings.Repeat("7;", 16) + "8888!!m", "E#8", "E]title\a", "E]" + strings.Repeat("t", 300) + "\a"} {
		for range 2 {
			l := takeAll(p, of(x))
			a := l[0]
			if slices.Contains(a.Params[:cap(a.Params)], 8888) {
				t.Errorf("%q: a parameter that is not told is behind the end", x)
			}
			_, _, _ = append(a.Mid, 99), append(a.Params, 99), append(a.Text, 99)
			checkTold(t, of(x), l, slowAll(of(x)))
		}
	}
}

func BenchmarkPlain(b *testing.B) {
	p := New()
	for i := range b.N {
		p.Take(32 + rune(i%95))
	}
}

func BenchmarkSequences(b *testing.B) {
	l := of("E[1;31mE[12;40HE[KE(BE[?25hE[0m")
	p := New()
	for i := range b.N {
		p.Take(l[i%len(l)])
	}
}

func BenchmarkCommand(b *testing.B) {
	l := of("E]0;" + strings.Repeat("t", 200) + "\a")
	p := New()
	for i := range b.N {
		p.Take(l[i%len(l)])
	}
}
