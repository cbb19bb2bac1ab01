package keys

// Bytes that are not for an application as they were pasted: both escapes begin sequences, the paste's end among them, and a line is ended by the key that a user ends it with.
const (
	escape      = 27
	escapeAlone = 155 // is as 27 and [ together
	lineFeed    = 10
	enter       = 13
)

// What stands between escape and an arrow's letter.
const (
	sequence   = '['
	arrowsMode = 'O'
)

func arrowBytes(arrow byte, arrows bool) []byte {
	if arrows {
		return []byte{escape, arrowsMode, arrow}
	}
	return []byte{escape, sequence, arrow}
}

func pasteBytes(b []byte, paste bool) []byte {
	if paste {
		return joined([]byte(pasteBegins), Clean(b), []byte(pasteEnds))
	}
	return Clean(b)
}

// joined is lists one behind the other, in memory of their own.
func joined(l ...[]byte) []byte {
	size := 0
	for _, b := range l {
		size += len(b)
	}
	out := make([]byte, size)
	at := 0
	for _, b := range l {
		at += copy(out[at:], b)
	}
	return out
}
