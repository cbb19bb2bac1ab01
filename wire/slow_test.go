package wire

import (
	"math/big"

	"wayfarer/api"
)

// The document's words, read slowly: numbers without an end, each form found by writing the number again, and errors handed on from step to step.

// slowUint is the form of a number, digit by digit to the base of 128.
func slowUint(n *big.Int) (b []byte) {
	base, rest, digit := big.NewInt(128), new(big.Int).Set(n), new(big.Int)
	for {
		rest.DivMod(rest, base, digit)
		if rest.Sign() == 0 {
			return append(b, byte(digit.Int64()))
		}
		b = append(b, byte(digit.Int64()+128))
	}
}

// slowReadUint is the number at the front of b.
func slowReadUint(b []byte) (n uint64, size int, e api.Errno) {
	for size == 0 || b[size-1] >= 128 && size < 10 {
		if size == len(b) {
			return 0, 0, api.ErrShort
		}
		size++
	}
	sum := new(big.Int)
	for i := size - 1; i >= 0; i-- {
		sum.Mul(sum, big.NewInt(128))
		sum.Add(sum, big.NewInt(int64(b[i]%128)))
	}
	if !sum.IsUint64() || string(slowUint(sum)) != string(b[:size]) {
		return 0, 0, api.ErrForm
	}
	return sum.Uint64(), size, api.OK
}

// slowBytes is the bytes at the front of b that tell how many they are, and what stands behind them.
func slowBytes(b []byte, least, most uint64) (out, behind []byte, e api.Errno) {
	n, size, e := slowReadUint(b)
	if e != api.OK {
		return nil, nil, e
	}
	b = b[size:]
	if n < least || n > most {
		return nil, nil, api.ErrForm
	}
	if uint64(len(b)) < n {
		return nil, nil, api.ErrShort
	}
	return b[:n], b[n:], api.OK
}

func slowRead(b []byte) (x api.Instruction, e api.Errno) {
	var numbers [4]uint64
	for i := range numbers {
		n, size, e := slowReadUint(b)
		if e != api.OK {
			return x, e
		}
		numbers[i], b = n, b[size:]
	}
	diff, behind, e := slowBytes(b, 0, 65536)
	if e != api.OK {
		return x, e
	}
	if len(behind) > 0 {
		return x, api.ErrForm
	}
	return api.Instruction{Old: numbers[0], New: numbers[1], Ack: numbers[2], Throw: numbers[3], Diff: diff}, api.OK
}

// slowEvent is the event at the front of b, and what stands behind it.
func slowEvent(b []byte) (x api.Event, behind []byte, e api.Errno) {
	if len(b) == 0 {
		return x, nil, api.ErrShort
	}
	kind, b := b[0], b[1:]
	switch kind {
	case 1, 3:
		x.Kind = api.EventKind(kind)
		least := uint64(1)
		if kind == 3 {
			least = 0
		}
		x.Bytes, behind, e = slowBytes(b, least, 4096)
		if e != api.OK {
			return api.Event{}, nil, e
		}
		return x, behind, api.OK
	case 2:
		cols, size, e := slowReadUint(b)
		if e != api.OK {
			return x, nil, e
		}
		rows, more, e := slowReadUint(b[size:])
		if e != api.OK {
			return x, nil, e
		}
		if cols < 1 || cols > 512 || rows < 1 || rows > 512 {
			return x, nil, api.ErrForm
		}
		return api.Event{Kind: api.EResize, Cols: int(cols), Rows: int(rows)}, b[size+more:], api.OK
	case 4:
		if len(b) == 0 {
			return x, nil, api.ErrShort
		}
		if b[0] < 65 || b[0] > 68 {
			return x, nil, api.ErrForm
		}
		return api.Event{Kind: api.EArrow, Arrow: b[0]}, b[1:], api.OK
	}
	return x, nil, api.ErrForm
}

func slowReadEvents(b []byte) (l []api.Event, e api.Errno) {
	if len(b) > 65536 {
		return nil, api.ErrLimit
	}
	count, size, e := slowReadUint(b)
	if e != api.OK {
		return nil, e
	}
	if count > 4096 {
		return nil, api.ErrForm
	}
	b = b[size:]
	for uint64(len(l)) < count {
		x, behind, e := slowEvent(b)
		if e != api.OK {
			return nil, e
		}
		l, b = append(l, x), behind
	}
	if len(b) > 0 {
		return nil, api.ErrForm
	}
	return l, api.OK
}

// slowMay is whether an event may be, field by field.
func slowMay(x api.Event) bool {
	keys, cols, rows, arrow := len(x.Bytes), x.Cols, x.Rows, int(x.Arrow)
	switch x.Kind {
	case api.EBytes:
		return keys >= 1 && keys <= 4096 && cols == 0 && rows == 0 && arrow == 0
	case api.EResize:
		return keys == 0 && cols >= 1 && cols <= 512 && rows >= 1 && rows <= 512 && arrow == 0
	case api.EPaste:
		return keys <= 4096 && cols == 0 && rows == 0 && arrow == 0
	case api.EArrow:
		return keys == 0 && cols == 0 && rows == 0 && arrow >= 65 && arrow <= 68
	}
	return false
}

func slowWriteEvents(l []api.Event) (b []byte, e api.Errno) {
	for _, x := range l {
		if !slowMay(x) {
			return nil, api.ErrArg
		}
	}
	if len(l) > 4096 {
		return nil, api.ErrLimit
	}
	number := func(n int) { b = append(b, slowUint(big.NewInt(int64(n)))...) }
	number(len(l))
	for _, x := range l {
		b = append(b, byte(x.Kind))
		switch x.Kind {
		case api.EBytes, api.EPaste:
			number(len(x.Bytes))
			b = append(b, x.Bytes...)
		case api.EResize:
			number(x.Cols)
			number(x.Rows)
		case api.EArrow:
			b = append(b, x.Arrow)
		}
	}
	if len(b) > 65536 {
		return nil, api.ErrLimit
	}
	return b, api.OK
}
