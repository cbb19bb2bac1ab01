package emulator

import (
	"strconv"
	"testing"

	"wayfarer/api"
	"wayfarer/screen"
)

// checkSlow holds what an action does to s against the words read slowly.
func checkSlow(t *testing.T, s api.Screen, a api.Action) {
	t.Helper()
	got, reply, e := Do(s, a)
	want, wantReply, wantE := slowDo(s, a)
	if e != wantE || string(reply) != wantReply || !screen.Same(got, want) || e == api.OK && !screen.May(got) {
		t.Fatalf("Do(%s, %+v)\n= %s, %q, %d\nnot %s, %q, %d", tellingOf(s), a, tellingOf(got), reply, e, tellingOf(want), wantReply, wantE)
	}
}

// oneParam is lists of no parameter and of one, at the edges of a few rows and columns, of the numbers that mean something, and of an int.
func oneParam() [][]int {
	l := [][]int{nil}
	for n := -6; n <= 9; n++ {
		l = append(l, []int{n})
	}
	for _, n := range []int{22, 25, 31, 47, 1047, 1049, 2004, 9999, least, least + 1, least + 2, greatest - 1, greatest, -1 << 32, 1 << 32, 1<<32 + 1, 511, 512, 513, 1023, 1024, 1025, -1024, -1025} {
		l = append(l, []int{n})
	}
	return l
}

// manyParams is lists of more.
func manyParams() (l [][]int) {
	for _, n := range []int{0, 1, 2, 3, -1, least, greatest} {
		for _, m := range []int{0, 1, 2, 3, 4, 5, -1, least, greatest} {
			l = append(l, []int{n, m})
		}
	}
	return append(l, []int{4, 6, 25}, []int{1049, 47, 6, 1047}, []int{38, 5, 9, 4}, []int{48, 2, 1, 1, 1, 9}, []int{6, 6, 1, 2, 3, 4, 5, 6, 7, 8, 9, 10, 11, 12, 13, 14, 15, 16, 17, 18})
}

// stands is screens of some pictures that differ by the cursor, the rows that scroll, the modes.
func stands(picture string) (l []api.Screen) {
	s := screenOf(picture)
	cols, rows := s.Grid.Cols, s.Grid.Rows
	for place := range rows * (cols + 1) {
		s.Row, s.Col = place/(cols+1), min(place%(cols+1), cols-1)
		s.Pend = place%(cols+1) == cols
		for s.Top = 0; s.Top < rows; s.Top++ {
			for s.Bottom = s.Top; s.Bottom < rows; s.Bottom++ {
				for _, s.Origin = range []bool{false, true} {
					l = append(l, s)
				}
			}
		}
	}
	return l
}

// P17.1: each Final of the table with each of many parameters, at each place of small screens, held against the words read slowly.
func TestAllParams(t *testing.T) {
	t.Parallel()
	for _, picture := range []string{"a", "a/b/c", "aW-", "W-1/X=b"} {
		t.Run(picture, func(t *testing.T) {
			t.Parallel()
			for i, s := range stands(picture) {
				if i%3 == 0 {
					s.Alt, s.Main = true, gridOf(picture)
				}
				for _, params := range append(oneParam(), []int{2, 3}) {
					for _, final := range []byte("ABeCaDEFG`dJKLM@PXSTgsu") {
						checkSlow(t, s, csi(final, params...))
					}
				}
				for _, params := range append(oneParam(), manyParams()...) {
					for _, final := range []byte("Hfmhlrnc") {
						checkSlow(t, s, csi(final, params...))
					}
					checkSlow(t, s, question('h', params...))
					checkSlow(t, s, question('l', params...))
				}
			}
		})
	}
}

// P17.1: each Final of each kind, with Mid and without, with each Private and none, of kinds that there are not too.
func TestAllFinals(t *testing.T) {
	t.Parallel()
	for _, from := range []string{"abc/def/ghi 1,2+ 1-2 origin t0,1", "W-a 0,1 t1 insert"} {
		t.Run(from, func(t *testing.T) {
			t.Parallel()
			s := screenOf(from)
			for kind := range 8 {
				for final := range 256 {
					for _, private := range []byte{0, '?', '>', '<', '=', 1, 255} {
						for _, mid := range []string{"", " ", "?", "()"} {
							for _, params := range [][]int{nil, {1, 2}, {6, 0}, {4, 25, 7}} {
								checkSlow(t, s, api.Action{Kind: api.ActionKind(kind), Char: rune(final), Private: private, Final: byte(final), Mid: []byte(mid), Params: params, Text: []rune("2;" + mid)})
							}
						}
					}
				}
			}
		})
	}
}

// P17.1: all short texts of commands.
func TestAllCommands(t *testing.T) {
	s := screenOf("ab 0,1+")
	chars := []rune{'0', '1', '2', ';', ':', 'x', -1, 0}
	var lay func(text []rune)
	lay = func(text []rune) {
		checkSlow(t, s, osc(text...))
		if len(text) < 4 {
			for _, c := range chars {
				lay(append(text[:len(text):len(text)], c))
			}
		}
	}
	lay(nil)
}

// checkSame holds a terminal against one that is read slowly.
func checkSame(t *testing.T, what string, m *Emulator, slow *slowTerminal) {
	t.Helper()
	s := m.Screen()
	if !screen.Same(s, slow.screen) || !screen.May(s) || m.Quiet() != slow.quiet {
		t.Fatalf("%s: behind %q\n%s, quiet: %t\nnot %s, %t", what, slow.bytes, tellingOf(s), m.Quiet(), tellingOf(slow.screen), slow.quiet)
	}
}

// P17.2, P17.3: all short rows of bytes that begin, go on and end characters and sequences, one by one, held against the words read slowly, and all at once.
func TestAllBytes(t *testing.T) {
	t.Parallel()
	for i, all := range []string{"a\x1b[2;H\n\xe4\xb8\xad", "a\x1b[]0;c\x07\x18\xc3\xa9", "a\x1b78cDEM\n", "\x1b[1;6nmrhl?"} {
		t.Run(strconv.Itoa(i), func(t *testing.T) {
			t.Parallel()
			var lay func(b []byte)
			lay = func(b []byte) {
				if len(b) < 4 {
					for _, x := range []byte(all) {
						lay(append(b[:len(b):len(b)], x))
					}
					return
				}
				m, whole, slow := terminal(t, 3, 2), terminal(t, 3, 2), slowNew(3, 2)
				replies := ""
				for _, x := range b {
					replies += string(m.Write([]byte{x}))
				}
				want := slow.write(b)
				if got := string(whole.Write(b)); got != want || replies != want {
					t.Fatalf("%q replied %q, %q, not %q", b, got, replies, want)
				}
				checkSame(t, "one by one", m, slow)
				checkSame(t, "at once", whole, slow)
			}
			lay(nil)
		})
	}
}

// pieces is bytes that look like chance: characters, controls, sequences, whole ones, cut ones and wrong ones.
func pieces(n *noise, count int) (b []byte) {
	for range count {
		switch n.below(10) {
		case 0, 1, 2:
			b = append(b, pick(n, []string{"a", "b", "xy", "\xe4\xb8\xad", "\xe4\xb8\xad", "\xf0\x9f\x98\x80", "\xcc\x81", "\xc3\xa9", "\xc2\x80"})...)
		case 3:
			b = append(b, pick(n, []byte{7, 8, 9, 10, 10, 11, 12, 13, 24, 26, 14, 0, 127}))
		case 4:
			b = append(b, byte(n.next()))
		case 5:
			b = append(b, 27, pick(n, []byte("78DEHMc(#]P[[&")))
		case 6:
			b = append(b, bytesOf(pick(n, []string{"&[?6h", "&[?6l", "&[?7l", "&[?7h", "&[4h", "&[4l", "&[?1049h", "&[?1049l", "&[?47h", "&[?47l", "&[1;31;44m", "&[m", "&]0;t\xc3\xa9\a", "&]2;u&\\", "&[5n", "&[6n", "&[c", "&[2;3r", "&[r", "\a"}))...)
		default:
			b = append(b, 27, '[')
			for range n.below(4) {
				b = append(b, pick(n, []string{"1", "2", "3", "5", "12", ";", ";", "0", "9999", "6"})...)
			}
			b = append(b, pick(n, []byte("ABeCaDEFG`dHfHfJKLM@PXSTgmhlrsunc\n;\x1b")))
		}
	}
	return b
}

// P17.2, P17.3: many bytes in parts of all lengths, with other sizes and copies between: the screen may be behind each byte, and is as the words say.
func TestManyBytes(t *testing.T) {
	t.Parallel()
	n := noise(17)
	wides, alts, origins, replied := 0, 0, 0, 0
	for range 150 {
		cols, rows := 1+n.below(7), 1+n.below(5)
		m, slow := terminal(t, cols, rows), slowNew(cols, rows)
		for range 30 {
			b := pieces(&n, 1+n.below(8))
			for len(b) > 0 {
				size := 1 + n.below(min(len(b), 5))
				got, want := m.Write(b[:size]), slow.write(b[:size])
				if string(got) != want {
					t.Fatalf("behind %q: %q, not %q", slow.bytes, got, want)
				}
				replied += len(want)
				checkSame(t, "many", m, slow)
				b = b[size:]
			}
			switch n.below(12) {
			case 0:
				cols, rows = 1+n.below(7), 1+n.below(5)
				slow.resize(cols, rows)
				if e := m.Resize(cols, rows); e != api.OK {
					t.Fatalf("Resize(%d, %d) = %d", cols, rows, e)
				}
			case 1:
				if e := m.Resize(n.below(3)*300, 0); e != api.ErrArg {
					t.Fatalf("Resize = %d", e)
				}
			case 2:
				left := m
				m = m.Copy()
				left.Write(pieces(&n, 3))
			}
			checkSame(t, "between", m, slow)
			for _, c := range slow.screen.Grid.Cells {
				wides += int(c.Wide) / 2
			}
			alts += len(slow.screen.Main.Cells)
			if slow.screen.Origin {
				origins++
			}
		}
	}
	if wides < 1000 || alts < 1000 || origins < 100 || replied < 1000 {
		t.Errorf("%d wide characters, %d cells that are not shown, %d with Origin, %d bytes of replies", wides, alts, origins, replied)
	}
}

// P17.3: bytes in two parts, cut at each place, do as at once.
func TestTwoParts(t *testing.T) {
	n := noise(3)
	for range 150 {
		cols, rows := 1+n.below(6), 1+n.below(4)
		b := pieces(&n, 12)
		whole := terminal(t, cols, rows)
		replies := whole.Write(b)
		for cut := range len(b) + 1 {
			m := terminal(t, cols, rows)
			parts := m.Write(b[:cut])
			parts = append(parts, m.Write(b[cut:])...)
			if string(parts) != string(replies) || !screen.Same(m.Screen(), whole.Screen()) || m.Quiet() != whole.Quiet() {
				t.Fatalf("%q, cut at %d: %s, %q\nnot %s, %q", b, cut, tellingOf(m.Screen()), parts, tellingOf(whole.Screen()), replies)
			}
		}
	}
}

// P17.3: whatever bytes came, behind 27 c the screen is a new one but for its Title.
func TestResetBehindMany(t *testing.T) {
	n := noise(27)
	titles := 0
	for range 1000 {
		cols, rows := 1+n.below(20), 1+n.below(4)
		m := terminal(t, cols, rows)
		m.Write(pieces(&n, 20))
		m.Write([]byte{27, 'c'})
		s := m.Screen()
		want := fresh(cols, rows)
		want.Title = s.Title
		if !screen.Same(s, want) || s.Row != 0 || s.Col != 0 || !m.Quiet() {
			t.Fatalf("%s", tellingOf(s))
		}
		titles += len(s.Title)
	}
	if titles < 100 {
		t.Errorf("%d characters of titles", titles)
	}
}
