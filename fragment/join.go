package fragment

import (
	"bytes"

	"wayfarer/api"
)

// place is where a part stands: which one it is of which Id.
type place struct {
	id uint64
	n  int
}

// piece is what a part tells at its place.
type piece struct {
	last  bool
	bytes []byte
}

// Join puts parts together. It is made by New alone.
type Join struct {
	id    uint64          // the greatest one that came; 0 ahead of the first, which no Id is below
	ended bool            // whether the parts of id came to their end
	parts map[place]piece // all of them of id; nil in one that is not there
}

// New is one that has no part yet.
func New() *Join {
	return &Join{parts: map[place]piece{}}
}

// Take is the bytes of all parts, if p is the last one that they waited for.
func (j *Join) Take(p api.Part) (b []byte, done bool, e api.Errno) {
	switch {
	case !j.isThere():
		return nil, false, api.ErrNil
	case !may(p):
		return nil, false, api.ErrArg
	case p.Id < j.id:
		return nil, false, api.OK
	case p.Id > j.id:
		j.turnTo(p.Id)
	}
	if j.ended {
		return nil, false, api.OK
	}
	at := place{p.Id, p.N}
	if _, has := j.parts[at]; has {
		return nil, false, api.OK
	}
	j.parts[at] = piece{p.Last, bytes.Clone(p.Bytes)}
	size, whole := j.whole()
	if !whole {
		return nil, false, api.OK
	}
	b = j.together(size)
	j.ended = true
	clear(j.parts)
	return b, true, api.OK
}

// Holds is of which Id there are parts, how many, and how many bytes they have.
func (j *Join) Holds() (id uint64, parts, bytes int) {
	if !j.isThere() {
		return 0, 0, 0
	}
	for _, x := range j.parts {
		bytes += len(x.bytes)
	}
	return j.id, len(j.parts), bytes
}

// turnTo leaves all parts for those of a greater Id.
func (j *Join) turnTo(id uint64) {
	j.id = id
	j.ended = false
	clear(j.parts)
}

// whole is how many parts there are up to the least Last one, if none of them is missing.
func (j *Join) whole() (size int, whole bool) {
	for n := range api.MaxParts {
		x, has := j.parts[place{j.id, n}]
		if !has {
			break
		}
		if x.last {
			return n + 1, true
		}
	}
	return 0, false
}

// together is the bytes of the first parts, one behind the other.
func (j *Join) together(size int) []byte {
	var out []byte
	for n := range size {
		out = append(out, j.parts[place{j.id, n}].bytes...)
	}
	return out
}

func (j *Join) isThere() bool {
	return j != nil && j.parts != nil
}
