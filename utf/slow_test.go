package utf

import "sync"

// The document's words, read slowly: forms by division, all of them in one map, and what is certain by trying what may come.

const slowReplacement = 65533

func slowMay(c int) bool {
	for _, span := range [][2]int{{0, 55295}, {57344, 1114111}} {
		if c >= span[0] && c <= span[1] {
			return true
		}
	}
	return false
}

// slowForm is the form of a character.
func slowForm(c int) []byte {
	switch {
	case c < 128:
		return []byte{byte(c)}
	case c < 2048:
		return []byte{byte(192 + c/64), byte(128 + c%64)}
	case c < 65536:
		return []byte{byte(224 + c/64/64), byte(128 + c/64%64), byte(128 + c%64)}
	}
	return []byte{byte(240 + c/64/64/64), byte(128 + c/64/64%64), byte(128 + c/64%64), byte(128 + c%64)}
}

func slowEncode(l []rune) (b []byte) {
	for _, c := range l {
		if slowMay(int(c)) {
			b = append(b, slowForm(int(c))...)
		} else {
			b = append(b, slowForm(slowReplacement)...)
		}
	}
	return b
}

// few is up to four bytes.
type few struct {
	bytes [4]byte
	size  int
}

func fewOf(b []byte) (x few) {
	x.size = copy(x.bytes[:], b)
	return x
}

// noChar is what stands in the map of forms at a beginning of one that is not the whole.
const noChar = -1

// slowForms is each character by its form, and all the beginnings of forms.
var slowForms = sync.OnceValue(func() map[few]rune {
	m := map[few]rune{}
	for c := range 1114112 {
		if !slowMay(c) {
			continue
		}
		form := slowForm(c)
		m[fewOf(form)] = rune(c)
		for size := 1; size < len(form); size++ {
			m[fewOf(form[:size])] = noChar
		}
	}
	return m
})

// told is a character, of how many bytes it was told, and whether these begin a form without being one.
type told struct {
	char  rune
	size  int
	begun bool
}

// slowNext is what is decoded first of bytes, of which there are some.
func slowNext(b []byte) told {
	x := told{slowReplacement, 1, false}
	for size := 1; size <= min(len(b), 4); size++ {
		c, has := slowForms()[fewOf(b[:size])]
		if has && c != noChar {
			return told{c, size, false}
		}
		if has {
			x = told{slowReplacement, size, true}
		}
	}
	return x
}

// slowSteps is bytes decoded.
func slowSteps(b []byte) (l []told) {
	for len(b) > 0 {
		x := slowNext(b)
		l = append(l, x)
		b = b[x.size:]
	}
	return l
}

func slowChars(l []told) (out []rune) {
	for _, x := range l {
		out = append(out, x.char)
	}
	return out
}

func slowDecode(b []byte) []rune {
	return slowChars(slowSteps(b))
}

// slowCertain is what is decoded of bytes whatever comes, and how many are left: a beginning of a form at the end may go on.
func slowCertain(b []byte) (l []rune, waits int) {
	steps := slowSteps(b)
	if n := len(steps); n > 0 && steps[n-1].begun {
		return slowChars(steps[:n-1]), steps[n-1].size
	}
	return slowChars(steps), 0
}

// slowTried is what is decoded of bytes with each of some others behind them alike.
func slowTried(b []byte, behind [][]byte) (l []rune) {
	for i, x := range behind {
		other := slowDecode(append(append([]byte{}, b...), x...))
		if i == 0 {
			l = other
			continue
		}
		same := 0
		for same < min(len(l), len(other)) && l[same] == other[same] {
			same++
		}
		l = l[:same]
	}
	return l
}
