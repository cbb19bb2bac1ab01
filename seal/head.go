package seal

import "wayfarer/api"

const (
	headSize = 8
	gapSize  = 4  // noughts that stand ahead of the head in a nonce
	sideAt   = 63 // the place of the bit that tells the side
)

// isSide is whether there are datagrams of a side.
func isSide(from api.Side) bool {
	switch from {
	case api.Client, api.Server:
		return true
	}
	return false
}

// headOf is the head of a datagram of a side, its number being below 2^63.
func headOf(from api.Side, seq uint64) uint64 {
	bit := uint64(0)
	switch from {
	case api.Server:
		bit = 1
	}
	return bit<<sideAt | seq
}

// sideOf is the side that a head is of: each head is one's.
func sideOf(head uint64) api.Side {
	switch head >> sideAt {
	case 0:
		return api.Client
	}
	return api.Server
}

// seqOf is the number in a head, which may be too great for a datagram.
func seqOf(head uint64) uint64 {
	return head &^ (1 << sideAt)
}

// nonceOf is the nonce that a head gives. As a head has the side and the number, no two datagrams that are sealed with one key have the same one.
func nonceOf(head uint64) []byte {
	return appendHead(make([]byte, gapSize, gapSize+headSize), head)
}

// appendHead puts a head behind out.
func appendHead(out []byte, head uint64) []byte {
	for i := range headSize {
		out = append(out, byte(head>>(8*(headSize-1-i))))
	}
	return out
}

// readHead is the head at the front of at least eight bytes.
func readHead(b []byte) uint64 {
	head := uint64(0)
	for _, c := range b[:headSize] {
		head = head<<8 | uint64(c)
	}
	return head
}

// appendTime puts a time of two bytes behind out.
func appendTime(out []byte, time uint16) []byte {
	return append(out, byte(time>>8), byte(time))
}

// readTime is the time at the front of at least two bytes.
func readTime(b []byte) uint16 {
	return uint16(b[0])<<8 | uint16(b[1])
}
