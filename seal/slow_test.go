package seal

import (
	"bytes"
	"encoding/binary"
	"math/big"
	"slices"

	"wayfarer/api"
	"wayfarer/ocb"
)

// The document's words, read slowly: heads as numbers without an end, a datagram found by sealing what was opened again, and of what was used and taken all numbers kept.

// slowHead is the head of a datagram in its bytes, whatever its number is, as long as eight bytes have it.
func slowHead(from api.Side, seq uint64) []byte {
	n := new(big.Int).SetUint64(seq)
	if from == api.Server {
		n.Add(n, new(big.Int).Lsh(big.NewInt(1), 63))
	}
	return n.FillBytes(make([]byte, 8))
}

// slowSealed is a head and plain bytes sealed behind it, whether such a datagram may be or not.
func slowSealed(key api.Block, head, plain []byte) []byte {
	sealed, e := ocb.Seal(key, slices.Concat(make([]byte, 4), head), nil, plain)
	if e != api.OK {
		panic(e)
	}
	return slices.Concat(head, sealed)
}

// slowPlain is what is sealed of a datagram.
func slowPlain(d api.Datagram) []byte {
	plain := binary.BigEndian.AppendUint16(nil, d.Sent)
	plain = binary.BigEndian.AppendUint16(plain, d.Echo)
	return append(plain, d.Bytes...)
}

func slowBytes(key api.Block, from api.Side, d api.Datagram) ([]byte, api.Errno) {
	if from != 1 && from != 2 || d.Seq > 1<<62-1 || len(d.Bytes) > 65000 {
		return nil, api.ErrArg
	}
	return slowSealed(key, slowHead(from, d.Seq), slowPlain(d)), api.OK
}

func slowDatagram(key api.Block, from api.Side, b []byte) (none api.Datagram, e api.Errno) {
	if from != 1 && from != 2 {
		return none, api.ErrArg
	}
	if len(b) < 28 {
		return none, api.ErrShort
	}
	head, most := new(big.Int).SetBytes(b[:8]), new(big.Int).Lsh(big.NewInt(1), 63)
	whose := api.Client
	if head.Cmp(most) >= 0 {
		whose = api.Server
		head.Sub(head, most)
	}
	if whose != from {
		return none, api.ErrSide
	}
	if head.Cmp(new(big.Int).Lsh(big.NewInt(1), 62)) >= 0 || len(b) > 65028 {
		return none, api.ErrForm
	}
	plain, e := ocb.Open(key, slices.Concat(make([]byte, 4), b[:8]), nil, b[8:])
	if e != api.OK {
		return none, api.ErrTag
	}
	d := api.Datagram{Seq: head.Uint64(), Sent: binary.BigEndian.Uint16(plain), Echo: binary.BigEndian.Uint16(plain[2:]), Bytes: plain[4:]}
	if again, _ := slowBytes(key, from, d); !bytes.Equal(again, b) {
		panic("what was opened is sealed as other bytes")
	}
	return d, api.OK
}

// slowOpen is an opener that keeps all that came.
type slowOpen struct {
	key        api.Block
	from       api.Side
	taken      []uint64
	old, wrong int
}

func (o *slowOpen) take(b []byte) (api.Datagram, api.Errno) {
	d, e := slowDatagram(o.key, o.from, b)
	if e != api.OK {
		o.wrong++
		return api.Datagram{}, e
	}
	if slices.ContainsFunc(o.taken, func(seq uint64) bool { return seq >= d.Seq }) {
		o.old++
		return api.Datagram{}, api.ErrOld
	}
	o.taken = append(o.taken, d.Seq)
	return d, api.OK
}
