package bits

import (
	"math/big"

	"wayfarer/api"
)

// slowBits is bits as the document counts them: one by one, the lowest first.
func slowBits(l []api.Bits) []bool {
	var row []bool
	for _, x := range l {
		n := new(big.Int).SetUint64(x.Value)
		for k := range x.Size {
			row = append(row, n.Bit(k) == 1)
		}
	}
	return row
}

// slowBytes is the bytes of a row: the bit at the place 8 n + k is that of the byte n with the weight 2^k.
func slowBytes(row []bool) []byte {
	var out []byte
	for at, set := range row {
		if at%8 == 0 {
			out = append(out, 0)
		}
		if set {
			out[at/8] += []byte{1, 2, 4, 8, 16, 32, 64, 128}[at%8]
		}
	}
	return out
}

// slowRow is the row of bits that bytes are.
func slowRow(b []byte) []bool {
	var row []bool
	for _, c := range b {
		for range 8 {
			row = append(row, c%2 == 1)
			c /= 2
		}
	}
	return row
}

// slowNumber is the number of which the bit with the weight 2^k is the k-th one of a row.
func slowNumber(row []bool) uint64 {
	n := new(big.Int)
	for k, set := range row {
		if set {
			n.SetBit(n, k, 1)
		}
	}
	return n.Uint64()
}

// slowReverse is the number whose row of bits is the other way round.
func slowReverse(x api.Bits) api.Bits {
	row := slowBits([]api.Bits{x})
	turned := make([]bool, len(row))
	for k := range row {
		turned[len(row)-1-k] = row[k]
	}
	return api.Bits{Value: slowNumber(turned), Size: x.Size}
}
