package keys

import (
	"strings"
	"testing"
)

// checkClean holds Clean to an answer and to the library.
func checkClean(t *testing.T, text, want string) {
	t.Helper()
	if got := string(Clean([]byte(text))); got != want || slowClean(text) != want {
		t.Errorf("Clean(%q) = %q, want %q", short(text), short(got), short(want))
	}
}

// P20.1: answers by hand: the bytes that matter first, last, in the middle, in rows, and nothing else.
func TestClean(t *testing.T) {
	for _, c := range [][2]string{
		{"", ""}, {"a", "a"}, {"abc", "abc"},
		{"\x1b", ""}, {"\x1bab", "ab"}, {"a\x1bb", "ab"}, {"ab\x1b", "ab"}, {"\x1b\x1b\x1b", ""}, {"a\x1b\x1bb\x1b\x1b", "ab"},
		{"\x9b", ""}, {"\x9bab", "ab"}, {"a\x9bb", "ab"}, {"ab\x9b", "ab"}, {"\x9b\x9b\x9b", ""}, {"\x9b\x9ba\x9b\x9bb", "ab"},
		{"\n", "\r"}, {"\nab", "\rab"}, {"a\nb", "a\rb"}, {"ab\n", "ab\r"}, {"\n\n\n", "\r\r\r"}, {"\n\na\n\n", "\r\ra\r\r"},
		{"\x1b\x9b\x1b\x9b", ""}, {"\x9b\n\x1b", "\r"}, {"\x1b\n\x9ba\x1b\n", "\ra\r"}, {"a\x1bb\n", "ab\r"},
		{"\r\n", "\r\r"}, {"\n\r", "\r\r"}, {"\r", "\r"},
		{"\xc3\x9b", "\xc3"}, {"\xe2\x82\xac", "\xe2\x82\xac"},
		{"\x1b[201~", "[201~"}, {"\x9b201~", "201~"}, {"\x1b\x1b[201~", "[201~"}, {"\x1b\x9b[201~", "[201~"},
	} {
		checkClean(t, c[0], c[1])
	}
}

// P20.1: no bytes.
func TestCleanNone(t *testing.T) {
	for _, b := range [][]byte{nil, {}, []byte("a")[:0], {27}, {155}, {27, 155, 155, 27}} {
		if got := Clean(b); len(got) != 0 {
			t.Errorf("Clean(%v) = %v", b, got)
		}
	}
}

// P20.1: each byte alone, and each two of them.
func TestCleanEach(t *testing.T) {
	one := func(c int) string {
		switch c {
		case 10:
			return "\r"
		case 27, 155:
			return ""
		}
		return string([]byte{byte(c)})
	}
	for c := range 256 {
		checkClean(t, string([]byte{byte(c)}), one(c))
		for d := range 256 {
			checkClean(t, string([]byte{byte(c), byte(d)}), one(c)+one(d))
		}
	}
}

// P20.1: all texts of few bytes, of those that matter and their neighbours.
func TestCleanAll(t *testing.T) {
	signs := "\n\r\x1b\x9b\x1a\x9aa"
	texts := []string{""}
	for range 5 {
		var longer []string
		for _, text := range texts {
			for _, c := range []byte(signs) {
				longer = append(longer, text+string([]byte{c}))
			}
		}
		for _, text := range longer {
			checkClean(t, text, slowClean(text))
		}
		texts = longer
	}
}

// P20.1: long ones, of one byte and of bytes that look like chance, of more than any event has.
func TestCleanLong(t *testing.T) {
	checkClean(t, strings.Repeat("\x1b", 1<<17), "")
	checkClean(t, strings.Repeat("\n", 1<<17), strings.Repeat("\r", 1<<17))
	checkClean(t, strings.Repeat("a\x9b", 1<<16), strings.Repeat("a", 1<<16))
	n := noise(1)
	for size := range 400 {
		b := make([]byte, size*size)
		for i := range b {
			b[i] = byte(n.next())
			if n.below(3) == 0 {
				b[i] = pick(&n, []byte("\n\x1b\x9b"))
			}
		}
		checkClean(t, string(b), slowClean(string(b)))
	}
}

// P20.1: what is clean is clean bytes of itself.
func TestCleanTwice(t *testing.T) {
	for _, text := range tough() {
		once := string(Clean([]byte(text)))
		checkClean(t, once, once)
	}
}
