package emulator

import (
	"math/big"
	"strconv"

	"wayfarer/api"
	"wayfarer/cell"
	"wayfarer/screen"
	"wayfarer/utf"
	"wayfarer/vt"
)

// The document's words, read slowly: each line of the table by itself, with numbers that have no end.

// good is the screen that the layer below answers, which it must not refuse.
func good(s api.Screen, e api.Errno) api.Screen {
	if e != api.OK {
		panic(e)
	}
	return s
}

// number is n, and so many less, or as near to that as an int may be.
func number(n *big.Int, less int) int {
	n = new(big.Int).Sub(n, big.NewInt(int64(less)))
	if n.Cmp(big.NewInt(least)) < 0 {
		return least
	}
	if n.Cmp(big.NewInt(greatest)) > 0 {
		return greatest
	}
	return int(n.Int64())
}

func slowParameter(a api.Action, place int) int {
	for i, p := range a.Params {
		if i == place {
			return p
		}
	}
	return 0
}

func slowCount(a api.Action, place int) *big.Int {
	n := big.NewInt(int64(slowParameter(a, place)))
	if n.Sign() == 0 {
		n = big.NewInt(1)
	}
	return n
}

// slowDo is what the words make of s, and the reply.
func slowDo(s api.Screen, a api.Action) (api.Screen, string, api.Errno) {
	if !screen.May(s) {
		return api.Screen{}, "", api.ErrArg
	}
	s = apart(s)
	mid := len(a.Mid) > 0
	var deeds map[byte]func() api.Screen
	reply := ""
	switch {
	case a.Kind == api.APrint:
		return good(screen.Print(s, a.Char)), "", api.OK
	case a.Kind == api.AExec && (a.Char == 8 || a.Char == 9 || a.Char == 10 || a.Char == 11 || a.Char == 12 || a.Char == 13):
		return good(screen.Control(s, a.Char)), "", api.OK
	case a.Kind == api.AOsc:
		return slowTitle(s, a.Text), "", api.OK
	case a.Kind == api.AEsc && !mid:
		deeds = slowEsc(s)
	case a.Kind == api.ACsi && a.Private == 0 && !mid:
		deeds = slowMoves(s, a)
		for final, deed := range slowOthers(s, a) {
			deeds[final] = deed
		}
		reply = slowReply(s, a)
	case a.Kind == api.ACsi && a.Private == '?' && !mid:
		deeds = map[byte]func() api.Screen{
			'h': func() api.Screen { return slowModes(s, true, a.Params, true) },
			'l': func() api.Screen { return slowModes(s, true, a.Params, false) },
		}
	}
	if deed := deeds[a.Final]; deed != nil {
		s = deed()
	}
	return s, reply, api.OK
}

func slowEsc(s api.Screen) map[byte]func() api.Screen {
	return map[byte]func() api.Screen{
		'7': func() api.Screen { return good(screen.Keep(s, false)) },
		'8': func() api.Screen { return good(screen.Keep(s, true)) },
		'D': func() api.Screen { return good(screen.Control(s, 10)) },
		'E': func() api.Screen { return good(screen.Control(good(screen.Control(s, 13)), 10)) },
		'H': func() api.Screen { return good(screen.Tab(s, 0)) },
		'M': func() api.Screen { return good(screen.Control(s, 141)) },
		'c': func() api.Screen {
			t := good(screen.New(s.Grid.Cols, s.Grid.Rows))
			t.Title = s.Title
			return t
		},
	}
}

func slowMoves(s api.Screen, a api.Action) map[byte]func() api.Screen {
	n, m := slowCount(a, 0), slowCount(a, 1)
	minus := new(big.Int).Neg(n)
	up := func() api.Screen { return good(screen.Move(s, number(minus, 0), 0)) }
	down := func() api.Screen { return good(screen.Move(s, number(n, 0), 0)) }
	right := func() api.Screen { return good(screen.Move(s, 0, number(n, 0))) }
	column := func() api.Screen { return good(screen.Move(s, 0, number(n, 1+s.Col))) }
	place := func() api.Screen { return good(screen.Place(s, number(n, 1), number(m, 1))) }
	return map[byte]func() api.Screen{
		'A': up, 'B': down, 'e': down, 'C': right, 'a': right,
		'D': func() api.Screen { return good(screen.Move(s, 0, number(minus, 0))) },
		'E': func() api.Screen { return good(screen.Control(down(), 13)) },
		'F': func() api.Screen { return good(screen.Control(up(), 13)) },
		'G': column, 96: column,
		'd': func() api.Screen { return good(screen.Place(s, number(n, 1), s.Col)) },
		'H': place, 'f': place,
	}
}

func slowOthers(s api.Screen, a api.Action) map[byte]func() api.Screen {
	n, p := slowCount(a, 0), slowParameter(a, 0)
	minus := new(big.Int).Neg(n)
	return map[byte]func() api.Screen{
		'J': func() api.Screen { return good(screen.Erase(s, true, p)) },
		'K': func() api.Screen { return good(screen.Erase(s, false, p)) },
		'L': func() api.Screen { return good(screen.Lines(s, number(n, 0))) },
		'M': func() api.Screen { return good(screen.Lines(s, number(minus, 0))) },
		'@': func() api.Screen { return good(screen.Chars(s, number(n, 0))) },
		'P': func() api.Screen { return good(screen.Chars(s, number(minus, 0))) },
		'X': func() api.Screen { return good(screen.Wipe(s, number(n, 0))) },
		'S': func() api.Screen { return good(screen.Scroll(s, number(n, 0))) },
		'T': func() api.Screen { return good(screen.Scroll(s, number(minus, 0))) },
		'g': func() api.Screen {
			if p == 0 {
				s = good(screen.Tab(s, 1))
			} else if p == 3 {
				s = good(screen.Tab(s, 2))
			}
			return s
		},
		'm': func() api.Screen {
			s.Style = cell.Apply(s.Style, a.Params...)
			return s
		},
		'h': func() api.Screen { return slowModes(s, false, a.Params, true) },
		'l': func() api.Screen { return slowModes(s, false, a.Params, false) },
		'r': func() api.Screen {
			b := big.NewInt(int64(slowParameter(a, 1)))
			if b.Sign() == 0 {
				b = big.NewInt(int64(s.Grid.Rows))
			}
			return good(screen.Region(s, number(n, 1), number(b, 1)))
		},
		's': func() api.Screen { return good(screen.Keep(s, false)) },
		'u': func() api.Screen { return good(screen.Keep(s, true)) },
	}
}

func slowReply(s api.Screen, a api.Action) string {
	p := slowParameter(a, 0)
	row := s.Row + 1
	if s.Origin {
		row = s.Row - s.Top + 1
	}
	switch {
	case a.Final == 'n' && p == 5:
		return "\x1b[0n"
	case a.Final == 'n' && p == 6:
		return "\x1b[" + strconv.Itoa(row) + ";" + strconv.Itoa(s.Col+1) + "R"
	case a.Final == 'c' && p == 0:
		return "\x1b[?62c"
	}
	return ""
}

func slowModes(s api.Screen, private bool, numbers []int, on bool) api.Screen {
	for _, n := range numbers {
		s = good(screen.Mode(s, private, n, on))
	}
	return s
}

func slowTitle(s api.Screen, text []rune) api.Screen {
	if len(text) < 2 || text[0] != '0' && text[0] != '2' || text[1] != ';' {
		return s
	}
	s.Title = nil
	for _, c := range text[2:] {
		if c >= 0 {
			s.Title = append(s.Title, c)
		}
	}
	if len(s.Title) > 256 {
		s.Title = s.Title[:256]
	}
	return s
}

// slowTold is what is told of all bytes that came, and whether nothing has begun behind them.
func slowTold(b []byte) (l []api.Action, quiet bool) {
	reader, parser := utf.New(), vt.New()
	var chars []rune
	for _, x := range b {
		chars = append(chars, reader.Take(x)...)
	}
	for _, c := range chars {
		parser.Take(c)
	}
	return vt.All(chars...), reader.Waits() == 0 && parser.Ground()
}

// slowTerminal is a terminal that reads all its bytes from the beginning again whenever some come.
type slowTerminal struct {
	screen api.Screen
	bytes  []byte
	done   int // of what is told of them
	quiet  bool
}

func slowNew(cols, rows int) *slowTerminal {
	return &slowTerminal{screen: fresh(cols, rows), quiet: true}
}

func (m *slowTerminal) write(b []byte) (replies string) {
	m.bytes = append(m.bytes, b...)
	l, quiet := slowTold(m.bytes)
	for _, a := range l[m.done:] {
		s, reply, e := slowDo(m.screen, a)
		m.screen = good(s, e)
		replies += reply
	}
	m.done, m.quiet = len(l), quiet
	return replies
}

func (m *slowTerminal) resize(cols, rows int) {
	m.screen = good(screen.Resize(m.screen, cols, rows))
}
