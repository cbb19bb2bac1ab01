package link

import (
	"math"

	"wayfarer/api"
	"wayfarer/seal"
)

// noEcho is the Echo that tells nothing.
const noEcho = math.MaxUint16

// lately is how many milliseconds a datagram is worth an Echo.
const lately = 1000

// opener takes datagrams, and knows when the last one came. It has layer 8's as a field, as a sealer has.
type opener struct {
	open *seal.Open
	any  bool   // whether one was taken
	sent uint16 // the Sent of the last one
	came uint64 // when it was taken
}

func newOpener(key api.Block, from api.Side) (opener, api.Errno) {
	o, e := seal.NewOpen(key, from)
	return opener{open: o}, e
}

// opened is the datagram that b is, which is the last one then.
func (o *opener) opened(b []byte, now uint64) (api.Datagram, api.Errno) {
	d, e := o.open.Take(b)
	if e != api.OK {
		return api.Datagram{}, e
	}
	o.any, o.sent, o.came = true, d.Sent, now
	return d, api.OK
}

// echo is what is told of the last datagram: when it was sent, and how long it is here, so that the other side learns of the way alone.
func (o *opener) echo(now uint64) uint16 {
	// Times are held against each other as they are: a clock that was turned back does not come round.
	if !o.any || now < o.came || now-o.came > lately {
		return noEcho
	}
	return o.sent + uint16(now-o.came)
}
