package utf

// Reader brings bytes to characters, a few at a time. It is made by New alone.
type Reader struct {
	made  bool               // a zero reader is as one that is not there
	bytes [mostSize - 1]byte // the first count of them begin a form, and are not the whole of it
	count int
}

// New is one that has no bytes yet.
func New() *Reader {
	return &Reader{made: true}
}

// Take is what one more byte makes certain.
func (r *Reader) Take(b byte) []rune {
	if !r.isThere() {
		return nil
	}
	return r.put(nil, b)
}

// End is what is left, as nothing comes any more.
func (r *Reader) End() []rune {
	if !r.isThere() {
		return nil
	}
	return r.finish(nil)
}

// Waits is how many bytes came that nothing was told of yet.
func (r *Reader) Waits() int {
	if !r.isThere() {
		return 0
	}
	return r.count
}

func (r *Reader) isThere() bool {
	return r != nil && r.made
}

// put puts what b makes certain behind out.
func (r *Reader) put(out []rune, b byte) []rune {
	if r.count > 0 {
		begun := leadOf(r.bytes[0])
		if begun.mayFollow(r.count, b) {
			return r.goOn(out, begun.size, b)
		}
		out = r.finish(out)
	}
	switch leadOf(b).size {
	case 0:
		return append(out, replacement)
	case 1:
		return append(out, rune(b))
	}
	r.bytes[0] = b
	r.count = 1
	return out
}

// goOn puts the character behind out whose form of so many bytes b ends, or keeps b, if it does not end it.
func (r *Reader) goOn(out []rune, size int, b byte) []rune {
	if r.count+1 < size {
		r.bytes[r.count] = b
		r.count++
		return out
	}
	c := rune(r.bytes[0] & (firstBits >> size))
	for _, x := range r.bytes[1:r.count] {
		c = c<<bitsEach | rune(x&lowBits)
	}
	r.forget()
	return append(out, c<<bitsEach|rune(b&lowBits))
}

// finish puts the replacement behind out, if there are bytes left, which begin a form that does not go on.
func (r *Reader) finish(out []rune) []rune {
	if r.count == 0 {
		return out
	}
	r.forget()
	return append(out, replacement)
}

// forget leaves the reader as one that has no bytes yet.
func (r *Reader) forget() {
	r.bytes = [mostSize - 1]byte{}
	r.count = 0
}
