package host

import (
	"slices"

	"wayfarer/api"
	"wayfarer/wire"
)

// difference is what a difference tells.
type difference struct {
	echo       uint64
	cols, rows int
	bytes      []byte
}

// form is the form of d.
func (d difference) form() []byte {
	return slices.Concat(wire.Uint(d.echo), wire.Uint(uint64(d.cols)), wire.Uint(uint64(d.rows)), d.bytes)
}

// read is the difference whose form b is. Its sides may be such as there are not.
func read(b []byte) (difference, api.Errno) {
	var numbers [3]uint64
	for i := range numbers {
		n, size, e := wire.ReadUint(b)
		if e != api.OK {
			return difference{}, e
		}
		numbers[i], b = n, b[size:]
	}
	return difference{echo: numbers[0], cols: side(numbers[1]), rows: side(numbers[2]), bytes: b}, api.OK
}

// side is a number as an int. One that is past all sides stays so, whatever an int holds.
func side(n uint64) int {
	return int(min(n, api.MaxSide+1))
}
