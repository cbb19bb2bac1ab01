package wire

import "wayfarer/api"

// fault is what is wrong with bytes, on its way out of the calls that met it.
type fault struct{ errno api.Errno }

func fail(e api.Errno) {
	panic(fault{e})
}

// reader is what is left of bytes that are read from the left, and what tells the next number of them.
type reader struct {
	left   []byte
	number func() uint64
}

func newReader(b []byte) *reader {
	r := &reader{left: b}
	r.number = func() uint64 {
		n, size, e := ReadUint(r.left)
		if e != api.OK {
			fail(e)
		}
		r.left = r.left[size:]
		return n
	}
	return r
}

// readWhole is what is read of b, if that takes all of it.
func readWhole[T any](b []byte, read func(r *reader) T) (x T, e api.Errno) {
	defer func() {
		thrown := recover()
		if thrown == nil {
			return
		}
		known, ok := thrown.(fault)
		if !ok {
			panic(thrown)
		}
		e = known.errno
	}()
	r := newReader(b)
	found := read(r)
	if len(r.left) > 0 {
		fail(api.ErrForm)
	}
	return found, api.OK
}

// piece is the next so many bytes, where they lie.
func (r *reader) piece(size int) []byte {
	if size > len(r.left) {
		fail(api.ErrShort)
	}
	out := r.left[:size]
	r.left = r.left[size:]
	return out
}

// bytes is the next bytes, in new memory, if they say ahead that they are no more than most.
func (r *reader) bytes(most uint64) []byte {
	size := r.number()
	if size > most {
		fail(api.ErrForm)
	}
	return append([]byte(nil), r.piece(int(size))...)
}

// side is the next number as columns or rows: one that is too great for them may be too great for an int, too, and is told as the first that is too great.
func (r *reader) side() int {
	return int(min(r.number(), api.MaxSide+1))
}

func instruction(r *reader) (x api.Instruction) {
	x.Old = r.number()
	x.New = r.number()
	x.Ack = r.number()
	x.Throw = r.number()
	x.Diff = r.bytes(api.MaxBytes)
	return x
}

func events(r *reader) (out []api.Event) {
	count := r.number()
	if count > api.MaxEvents {
		fail(api.ErrForm)
	}
	for range count {
		out = append(out, event(r))
	}
	return out
}

func event(r *reader) api.Event {
	x := api.Event{Kind: api.EventKind(r.piece(1)[0])}
	switch x.Kind {
	case api.EBytes, api.EPaste:
		x.Bytes = r.bytes(mostBytes)
	case api.EResize:
		x.Cols = r.side()
		x.Rows = r.side()
	case api.EArrow:
		x.Arrow = r.piece(1)[0]
	}
	if !May(x) {
		fail(api.ErrForm)
	}
	return x
}
