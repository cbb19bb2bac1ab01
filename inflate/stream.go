package inflate

import (
	"wayfarer/api"
	"wayfarer/bits"
)

// The kinds of blocks.
const (
	kindStored = iota
	kindFixed
	kindDynamic
)

const byteSize = 8

// fault is what is wrong with a stream, on its way out of the calls that met it.
type fault struct{ errno api.Errno }

func fail(e api.Errno) {
	panic(fault{e})
}

// stream is bytes, the place of the next bit, and what came out so far.
type stream struct {
	b     []byte
	at    int
	out   []byte
	most  int
	fixed *codes // kept, as a stream may have very many short blocks that go by them
}

// codes reads the next symbol, or the next distance symbol.
type codes struct {
	symbol, distance func() int
}

// number is the next so many bits.
func (s *stream) number(size int) int {
	value, e := bits.Read(s.b, s.at, size)
	if e != api.OK {
		fail(e)
	}
	s.at += size
	return int(value)
}

// bytesRead is how many bytes have bits that were read.
func (s *stream) bytesRead() int {
	return (s.at + byteSize - 1) / byteSize
}

// put lets a byte come out.
func (s *stream) put(c byte) {
	if len(s.out) == s.most {
		fail(api.ErrLimit)
	}
	s.out = append(s.out, c)
}

// blocks reads all blocks, up to the last one or to what is wrong.
func (s *stream) blocks() (e api.Errno) {
	defer func() {
		switch thrown := recover().(type) {
		case nil:
		case fault:
			e = thrown.errno
		default:
			panic(thrown)
		}
	}()
	for last := false; !last; {
		last = s.number(1) == 1
		s.block()
	}
	return api.OK
}

// block reads a block behind the bit that says whether it is the last one.
func (s *stream) block() {
	switch s.number(2) {
	case kindStored:
		s.stored()
	case kindFixed:
		if s.fixed == nil {
			symbols, distances := Fixed()
			s.fixed = &codes{s.reader(symbols), s.reader(distances)}
		}
		s.told(*s.fixed)
	case kindDynamic:
		s.told(s.dynamic())
	default:
		fail(api.ErrForm)
	}
}

// stored reads bytes that stand as they are.
func (s *stream) stored() {
	s.at = s.bytesRead() * byteSize
	count := s.number(16)
	turned := s.number(16)
	if uint16(turned) != ^uint16(count) {
		fail(api.ErrForm)
	}
	// Byte by byte, as the end of the bytes and the bound are told by which of them is met first.
	for range count {
		s.put(byte(s.number(byteSize)))
	}
}

// told reads symbols up to the one that ends a block.
func (s *stream) told(c codes) {
	for {
		symbol := c.symbol()
		if symbol == endSymbol {
			return
		}
		if symbol < endSymbol {
			s.put(byte(symbol))
			continue
		}
		length := s.measure(Length(symbol))
		distance := s.measure(Distance(c.distance()))
		s.again(length, distance)
	}
}

// measure is a length or a distance, of what its symbol stands for and the extra bits that follow. A symbol that stands for none is one of the stream.
func (s *stream) measure(base, extra int, e api.Errno) int {
	if e != api.OK {
		fail(api.ErrForm)
	}
	return base + s.number(extra)
}

// again tells bytes that came out already, one by one, as they may reach into themselves.
func (s *stream) again(length, distance int) {
	if distance > len(s.out) {
		fail(api.ErrForm)
	}
	for range length {
		s.put(s.out[len(s.out)-distance])
	}
}
