package wire

import "wayfarer/api"

const (
	bitsEach   = 7 // of a number, in each byte of its form
	lowBits    = 1<<bitsEach - 1
	goesOn     = 1 << bitsEach // in all bytes but the last one
	mostSize   = 10            // bytes of a number's form
	mostInLast = 1             // in the last one of so many: nine times seven bits leave one of 64
)

// appendNumber puts the form of a number behind out.
func appendNumber(out []byte, n uint64) []byte {
	for ; n > lowBits; n >>= bitsEach {
		out = append(out, byte(n&lowBits)|goesOn)
	}
	return append(out, byte(n))
}

// appendBytes puts the form of bytes behind out.
func appendBytes(out, b []byte) []byte {
	return append(appendNumber(out, uint64(len(b))), b...)
}

// appendEvent puts the form of an event that may be behind out.
func appendEvent(out []byte, x api.Event) []byte {
	out = append(out, byte(x.Kind))
	switch x.Kind {
	case api.EResize:
		return appendNumber(appendNumber(out, uint64(x.Cols)), uint64(x.Rows))
	case api.EArrow:
		return append(out, x.Arrow)
	}
	return appendBytes(out, x.Bytes)
}

// numberSize is how many bytes at the front of b are to be read as one number; 0, if b ends ahead of its end.
func numberSize(b []byte) int {
	for i, c := range b {
		if c < goesOn || i == mostSize-1 {
			return i + 1
		}
	}
	return 0
}

// isForm is whether just these bytes are the form of a number. It asks for no more bits than a number has, and for none that could be left away, so that each number has one form alone.
func isForm(b []byte) bool {
	last := b[len(b)-1]
	if len(b) == mostSize && last > mostInLast {
		return false
	}
	return len(b) == 1 || last > 0
}
