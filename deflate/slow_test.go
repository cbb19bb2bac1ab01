package deflate

import (
	"slices"

	"wayfarer/api"
)

// slowExpand is what the document's words say of tokens: one after the other, each one's fault ahead of the limit.
func slowExpand(l []api.Token) ([]byte, api.Errno) {
	var out []byte
	for _, x := range l {
		single := x.Length == 0 && x.Distance == 0
		piece := 3 <= x.Length && x.Length <= 258 && 1 <= x.Distance && x.Distance <= 32768 && x.Distance <= len(out) && x.Byte == 0
		switch {
		case single:
			out = append(out, x.Byte)
		case piece:
			begin := len(out) - x.Distance
			for i := begin; i < begin+x.Length; i++ {
				out = append(out, out[i])
			}
		default:
			return nil, api.ErrArg
		}
		if len(out) > 65536 {
			return nil, api.ErrLimit
		}
	}
	return out, api.OK
}

// slowStored is the stored stream, put together block by block from the end on.
func slowStored(b []byte) ([]byte, api.Errno) {
	if len(b) > 65536 {
		return nil, api.ErrLimit
	}
	blocks := max(1, (len(b)+65534)/65535)
	var out []byte
	for i := blocks - 1; i >= 0; i-- {
		part := b[i*65535 : min(len(b), (i+1)*65535)]
		head := []byte{0, byte(len(part) % 256), byte(len(part) / 256), byte(255 - len(part)%256), byte(255 - len(part)/256)}
		if i == blocks-1 {
			head[0] = 1
		}
		out = slices.Concat(head, part, out)
	}
	return out, api.OK
}

// pairs is 65536 bytes in which no two bytes stand beside each other twice.
func pairs() []byte { return pairsOf(0, 256) }

// pairsOf is such bytes, of some bytes alone: each pair of them once.
func pairsOf(from, to int) []byte {
	var out []byte
	for a := from; a < to; a++ {
		out = append(out, byte(a))
		for b := a + 1; b < to; b++ {
			out = append(out, byte(a), byte(b))
		}
	}
	return out
}

// scrambled is so many bytes below a bound with no order to be seen, the same ones for the same seed.
func scrambled(count, below int, seed uint64) []byte {
	b := make([]byte, count)
	for i := range b {
		seed = seed*6364136223846793005 + 1442695040888963407
		n := (seed ^ seed>>29) * 0xbf58476d1ce4e5b9
		b[i] = byte((n ^ n>>32) % uint64(below))
	}
	return b
}
