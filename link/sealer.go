package link

import (
	"wayfarer/api"
	"wayfarer/fragment"
	"wayfarer/seal"
)

// sealer makes datagrams of streams. It has layer 8's as a field, so that a link that embeds it gives none of that one's calls out.
type sealer struct {
	seal *seal.Seal
	id   uint64 // of the next instruction
}

func newSealer(key api.Block, side api.Side, next uint64) (sealer, api.Errno) {
	s, e := seal.New(key, side, next)
	return sealer{seal: s}, e
}

// left is how many datagrams there are numbers for.
func (s *sealer) left() uint64 {
	return api.MaxSeq - s.seal.Used()
}

// sealed is the datagrams of the next instruction, whose stream is handed in.
func (s *sealer) sealed(stream []byte, sent, echo uint16) ([][]byte, api.Errno) {
	parts, e := fragment.Split(s.id, stream, partSize)
	if e != api.OK {
		return nil, e
	}
	// Asked ahead of sealing the first one: half an instruction is of no use, and its numbers would be gone.
	if uint64(len(parts)) > s.left() {
		return nil, api.ErrStop
	}
	var row [][]byte
	put := func(p api.Part) api.Errno {
		form, e := fragment.Write(p)
		if e != api.OK {
			return e
		}
		datagram, e := s.seal.Next(sent, echo, form)
		if e == api.OK {
			row = append(row, datagram)
		}
		return e
	}
	for _, p := range parts {
		if e := put(p); e != api.OK {
			return nil, e
		}
	}
	s.id++
	return row, api.OK
}
