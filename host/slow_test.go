package host

import (
	"bytes"
	"math/big"
	"slices"
	"strconv"
	"testing"

	"wayfarer/api"
	"wayfarer/emulator"
	"wayfarer/model"
	"wayfarer/screen"
	"wayfarer/utf"
	"wayfarer/vt"
)

// The document's words, read slowly.

// isTold is whether layer 19 tells a title.
func isTold(title []rune) bool {
	for _, c := range title {
		if c < 32 || c == 127 || c > 0x10ffff || c >= 0xd800 && c <= 0xdfff {
			return false
		}
	}
	return len(title) <= 254
}

// slowOf lays what a new screen becomes by another one into it, field by field.
func slowOf(s api.Screen, echo uint64) (api.Host, api.Errno) {
	if !screen.May(s) {
		return api.Host{}, api.ErrArg
	}
	t := fresh(s.Grid.Cols, s.Grid.Rows)
	t.Grid.Cells = slices.Clone(s.Grid.Cells)
	t.Row, t.Col = s.Row, s.Col
	t.Visible, t.Arrows, t.Paste = s.Visible, s.Arrows, s.Paste
	if isTold(s.Title) {
		t.Title = slices.Clone(s.Title)
	}
	return api.Host{Screen: t, Echo: echo}, api.OK
}

// slowMay asks all else but what a state bears for being as of a new screen.
func slowMay(h api.Host) bool {
	s := h.Screen
	if !screen.May(s) || !model.Tame(s) || !isTold(s.Title) {
		return false
	}
	bare := fresh(s.Grid.Cols, s.Grid.Rows)
	return slices.Equal(s.Tabs, bare.Tabs) && s.Saved == bare.Saved && len(s.Main.Cells) == 0 && s.Main.Cols == 0 && s.Main.Rows == 0
}

// sameState is whether states are the same, by the library's own comparison of their screens.
func sameState(a, b api.Host) bool {
	return a.Echo == b.Echo && equal(a.Screen, b.Screen)
}

// number is a number's form, by layer 7's words.
func number(n uint64) string {
	if n < 128 {
		return string([]byte{byte(n)})
	}
	return string([]byte{byte(n%128 + 128)}) + number(n/128)
}

// slowNumber is the number whose form b begins with, which may be greater than any that is one.
func slowNumber(b []byte) (*big.Int, []byte, api.Errno) {
	n := new(big.Int)
	for i, x := range b[:min(len(b), 10)] {
		n.Add(n, new(big.Int).Lsh(big.NewInt(int64(x%128)), uint(7*i)))
		if x >= 128 {
			continue
		}
		if !n.IsUint64() || number(n.Uint64()) != string(b[:i+1]) {
			return nil, nil, api.ErrForm
		}
		return n, b[i+1:], api.OK
	}
	if len(b) < 10 {
		return nil, nil, api.ErrShort
	}
	return nil, nil, api.ErrForm
}

// played is what a quiet terminal of the screen s shows behind bytes, by layers 11, 13 and 17, one behind the other.
func played(s api.Screen, b []byte) api.Screen {
	reader, parser := utf.New(), vt.New()
	for _, x := range b {
		for _, c := range reader.Take(x) {
			for _, a := range parser.Take(c) {
				t, _, e := emulator.Do(s, a)
				if e != api.OK {
					panic(tellingOf(s) + " is refused")
				}
				s = t
			}
		}
	}
	return s
}

// slowApply is the state that a difference makes, each error in its order.
func slowApply(a api.Host, diff []byte) (api.Host, api.Errno) {
	if !slowMay(a) {
		return api.Host{}, api.ErrArg
	}
	if len(diff) > 65536 {
		return api.Host{}, api.ErrLimit
	}
	var numbers [3]*big.Int
	for i := range numbers {
		n, rest, e := slowNumber(diff)
		if e != api.OK {
			return api.Host{}, e
		}
		numbers[i], diff = n, rest
	}
	for _, n := range numbers[1:] {
		if n.Sign() == 0 || n.Cmp(big.NewInt(512)) > 0 {
			return api.Host{}, api.ErrForm
		}
	}
	s, cols, rows := apart(a.Screen), int(numbers[1].Int64()), int(numbers[2].Int64())
	if s.Grid.Cols != cols || s.Grid.Rows != rows {
		t, e := screen.Resize(s, cols, rows)
		if e != api.OK {
			panic(tellingOf(s) + " has no other size")
		}
		s = t
	}
	return slowOf(played(s, diff), numbers[0].Uint64())
}

// most is how many bytes a difference to a state has at most, by layer 19's bound and 30 more.
func most(h api.Host) int {
	g := h.Screen.Grid
	return 160*g.Cols*g.Rows + 8*len(h.Screen.Title) + 430
}

func tellingState(h api.Host) string {
	return tellingOf(h.Screen) + "Echo:" + strconv.FormatUint(h.Echo, 10)
}

// checkApply holds Apply against the words, and is what it answers.
func checkApply(t testing.TB, a api.Host, diff []byte) (api.Host, api.Errno) {
	t.Helper()
	want, wantE := slowApply(a, diff)
	h, e := Apply(a, diff)
	if e != wantE || !sameState(h, want) {
		t.Fatalf("Apply(%s,\n%q)\n= %s, %d\nnot %s, %d", tellingState(a), short(textOf(diff)), tellingState(h), e, tellingState(want), wantE)
	}
	if May(h) != (e == api.OK) || slowMay(h) != (e == api.OK) {
		t.Fatalf("Apply(%s,\n%q)\n= %s, %d, which may be: %t", tellingState(a), short(textOf(diff)), tellingState(h), e, May(h))
	}
	return h, e
}

// checkDiff holds Diff of two states that may be, whose difference fits, against P22.2, and is the difference.
func checkDiff(t testing.TB, a, b api.Host) []byte {
	t.Helper()
	if !slowMay(a) || !slowMay(b) {
		t.Fatalf("%s or %s may not be", tellingState(a), tellingState(b))
	}
	diff, e := Diff(a, b)
	if e != api.OK || len(diff) > 65536 || len(diff) > most(b) {
		t.Fatalf("Diff(%s,\n%s) = %d bytes, %d", tellingState(a), tellingState(b), len(diff), e)
	}
	if h, e := checkApply(t, a, diff); e != api.OK || !sameState(h, b) {
		t.Fatalf("Apply(%s,\n%q)\n= %s, %d\nnot %s", tellingState(a), short(textOf(diff)), tellingState(h), e, tellingState(b))
	}
	again, e := Diff(stateApart(a), stateApart(b))
	if e != api.OK || !bytes.Equal(again, diff) {
		t.Fatalf("Diff(%s,\n%s)\n= %q and then %q, %d", tellingState(a), tellingState(b), short(textOf(diff)), short(textOf(again)), e)
	}
	return diff
}

// checkNoDiff holds Diff of two states to an error, beside which there is nothing.
func checkNoDiff(t testing.TB, a, b api.Host, want api.Errno) {
	t.Helper()
	if diff, e := Diff(a, b); e != want || len(diff) > 0 {
		t.Errorf("Diff(%s,\n%s) = %d bytes, %d, not %d", tellingState(a), tellingState(b), len(diff), e, want)
	}
}

// checkOf holds Of, and May of what it answers, against P22.1, and is that.
func checkOf(t testing.TB, s api.Screen, echo uint64) api.Host {
	t.Helper()
	want, wantE := slowOf(s, echo)
	h, e := Of(s, echo)
	if e != wantE || !sameState(h, want) || May(h) != (e == api.OK) || slowMay(h) != (e == api.OK) {
		t.Fatalf("Of(%s, %d)\n= %s, %d, which may be: %t\nnot %s, %d", tellingOf(s), echo, tellingState(h), e, May(h), tellingState(want), wantE)
	}
	return h
}

// checkMay holds May against the words.
func checkMay(t testing.TB, h api.Host, want bool) {
	t.Helper()
	if May(h) != want || slowMay(h) != want {
		t.Errorf("May(%s) = %t, by the words %t, not %t", tellingState(h), May(h), slowMay(h), want)
	}
}
