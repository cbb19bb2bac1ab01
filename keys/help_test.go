package keys

import (
	"bytes"
	"slices"
	"strings"
	"testing"

	"wayfarer/api"
	"wayfarer/screen"
)

// noise is numbers that look like chance and are always the same ones.
type noise uint64

func (n *noise) next() uint64 {
	*n = *n*6364136223846793005 + 1442695040888963407
	return uint64(*n >> 32)
}

func (n *noise) below(count int) int {
	return int(n.next() % uint64(count))
}

func pick[T any](n *noise, l []T) T {
	return l[n.below(len(l))]
}

func typed(text string) api.Event       { return api.Event{Kind: api.EBytes, Bytes: []byte(text)} }
func pasted(text string) api.Event      { return api.Event{Kind: api.EPaste, Bytes: []byte(text)} }
func sized(cols, rows int) api.Event    { return api.Event{Kind: api.EResize, Cols: cols, Rows: rows} }
func arrow(letter byte) api.Event       { return api.Event{Kind: api.EArrow, Arrow: letter} }
func listed(l ...api.Event) []api.Event { return l }

// The marks of a paste, by hand.
const (
	ahead  = "\x1b[200~"
	behind = "\x1b[201~"
)

// modes is the four pairs of the modes of arrows and of pasting.
func modes() [][2]bool {
	return [][2]bool{{false, false}, {true, false}, {false, true}, {true, true}}
}

// tough is texts of which some bytes may not be left as they are, with marks of a paste, whole and cut, among them.
func tough() []string {
	return []string{
		"\x1b", "\x9b", "\n", "\x1b\x1b\x1b", "\x9b\x9b", "\n\n\n", "\x1b\x9b\x1b\x9b",
		"\x1bab", "\x9bab", "\nab", "a\x1bb", "a\x9bb", "a\nb", "ab\x1b", "ab\x9b", "ab\n",
		"\x1b\x9b\na\n\x9b\x1b", "\r\n\r\n", "\n\r", "\x1b\n\x1b", "\x9b\n\x9b",
		ahead, behind, ahead + behind, behind + ahead, "a" + behind + "rm -r\n", "\x9b201~\n", "\x9b200~",
		"\x1b\x1b[201~[201~", "\x1b\x9b[201~", "\x1b[20\x1b[201~1~", "\x1b", "[201~", "\x1b[201", "\xc3\x9b\xe2\x82\xac",
		"\x00\x1a\x1b\x1c\x9a\x9b\x9c\t\n\v\f\r", "\x1bOA\x1b[A",
	}
}

// slowClean is the clean bytes of a text, by the library.
func slowClean(text string) string {
	return strings.NewReplacer("\x1b", "", "\x9b", "", "\n", "\r").Replace(text)
}

// slowMay is whether an event may be, by layer 7's table.
func slowMay(x api.Event) bool {
	bare := x.Cols == 0 && x.Rows == 0
	switch x.Kind {
	case 1:
		return len(x.Bytes) >= 1 && len(x.Bytes) <= 4096 && bare && x.Arrow == 0
	case 2:
		return len(x.Bytes) == 0 && x.Cols >= 1 && x.Cols <= 512 && x.Rows >= 1 && x.Rows <= 512 && x.Arrow == 0
	case 3:
		return len(x.Bytes) <= 4096 && bare && x.Arrow == 0
	case 4:
		return len(x.Bytes) == 0 && bare && strings.IndexByte("ABCD", x.Arrow) >= 0
	}
	return false
}

// slowEncode is an event's bytes, by the chapter's words.
func slowEncode(x api.Event, arrows, paste bool) (string, api.Errno) {
	if !slowMay(x) {
		return "", api.ErrArg
	}
	second := map[bool]string{true: "O", false: "["}[arrows]
	clean := slowClean(string(x.Bytes))
	if paste {
		clean = ahead + clean + behind
	}
	return map[api.EventKind]string{1: string(x.Bytes), 2: "", 3: clean, 4: "\x1b" + second + string(rune(x.Arrow))}[x.Kind], api.OK
}

// slowAll is the bytes of all events.
func slowAll(s api.Screen, l []api.Event) (string, api.Errno) {
	all := ""
	for _, x := range l {
		text, e := slowEncode(x, s.Arrows, s.Paste)
		if e != api.OK {
			return "", e
		}
		all += text
	}
	return all, api.OK
}

// fresh is a new screen.
func fresh(t testing.TB, cols, rows int) api.Screen {
	t.Helper()
	s, e := screen.New(cols, rows)
	if e != api.OK {
		t.Fatal(e)
	}
	return s
}

// laden is a screen that has something in each of its lists, and all but Arrows and Paste other than a new one.
func laden(t testing.TB) api.Screen {
	t.Helper()
	s := fresh(t, 9, 3)
	for _, do := range []func(s api.Screen) (api.Screen, api.Errno){
		func(s api.Screen) (api.Screen, api.Errno) { return screen.Print(s, 'a') },
		func(s api.Screen) (api.Screen, api.Errno) { return screen.Mode(s, true, 1049, true) },
		func(s api.Screen) (api.Screen, api.Errno) { return screen.Print(s, 0x4e2d) },
		func(s api.Screen) (api.Screen, api.Errno) { return screen.Region(s, 1, 2) },
		func(s api.Screen) (api.Screen, api.Errno) { return screen.Mode(s, true, 6, true) },
		func(s api.Screen) (api.Screen, api.Errno) { return screen.Mode(s, true, 7, false) },
		func(s api.Screen) (api.Screen, api.Errno) { return screen.Mode(s, true, 25, false) },
		func(s api.Screen) (api.Screen, api.Errno) { return screen.Mode(s, false, 4, true) },
	} {
		next, e := do(s)
		if e != api.OK {
			t.Fatal(e)
		}
		s = next
	}
	s.Title = []rune("tea")
	return s
}

// inModes is s with modes of arrows and of pasting.
func inModes(s api.Screen, mode [2]bool) api.Screen {
	s.Arrows, s.Paste = mode[0], mode[1]
	return s
}

// apart is s in memory of its own, with room behind its lists' ends that has elements of its own.
func apart(s api.Screen) api.Screen {
	s.Grid.Cells, s.Main.Cells = roomy(s.Grid.Cells, api.Cell{Char: 'e', Wide: 1}), roomy(s.Main.Cells, api.Cell{Char: 'f', Wide: 1})
	s.Tabs, s.Title = roomy(s.Tabs, 7), roomy(s.Title, 'e')
	return s
}

// toEnd is s with its lists up to the end of their room.
func toEnd(s api.Screen) api.Screen {
	s.Grid.Cells, s.Main.Cells = s.Grid.Cells[:cap(s.Grid.Cells)], s.Main.Cells[:cap(s.Main.Cells)]
	s.Tabs, s.Title = s.Tabs[:cap(s.Tabs)], s.Title[:cap(s.Title)]
	return s
}

// roomy is a list as l with room behind its end, which has elements of its own.
func roomy[T any](l []T, more T) []T {
	r := append(make([]T, 0, len(l)+5), l...)
	for range 5 {
		r = append(r, more)
	}
	return r[:len(l)]
}

// events is events as l, with such room behind the list and behind the bytes of each.
func events(l []api.Event) []api.Event {
	out := slices.Clone(l)
	for i := range out {
		out[i].Bytes = roomy(out[i].Bytes, 'e')
	}
	return roomy(out, api.Event{Kind: api.EArrow, Arrow: 'C', Bytes: []byte("e")})
}

// sameEvents is whether two lists of events are alike, up to the end of their room and of that of their bytes.
func sameEvents(l, m []api.Event) bool {
	return slices.EqualFunc(l[:cap(l)], m[:cap(m)], func(x, y api.Event) bool {
		return x.Kind == y.Kind && x.Cols == y.Cols && x.Rows == y.Rows && x.Arrow == y.Arrow && len(x.Bytes) == len(y.Bytes) && bytes.Equal(x.Bytes[:cap(x.Bytes)], y.Bytes[:cap(y.Bytes)])
	})
}

// spoil turns all bytes of a list about, those in the room behind its end too.
func spoil(b []byte) {
	b = b[:cap(b)]
	for i := range b {
		b[i] ^= 255
	}
}

// short is a text that is not too long to be told.
func short(text string) string {
	return text[:min(len(text), 60)]
}
