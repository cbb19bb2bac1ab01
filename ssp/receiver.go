package ssp

import (
	"cmp"
	"slices"

	"wayfarer/api"
)

// numbered is a state with its number.
type numbered[S any] struct {
	n uint64
	x S
}

// Receiver is told it. It is made by NewReceiver alone.
type Receiver[S State[S]] struct {
	row []numbered[S] // rising: never empty, but in a receiver that no call made
}

// NewReceiver is a receiver that has the first state.
func NewReceiver[S State[S]](first S) *Receiver[S] {
	x, e := copied(first)
	if e != api.OK {
		return nil
	}
	return &Receiver[S]{row: []numbered[S]{{0, x}}}
}

// there is whether a call made r.
func (r *Receiver[S]) there() bool {
	return r != nil && len(r.row) > 0
}

// Take is whether an instruction tells a state that is later than all that r has.
func (r *Receiver[S]) Take(x api.Instruction) (news bool, e api.Errno) {
	if !r.there() {
		return false, api.ErrNil
	}
	if _, has := find(r.row, x.New); !has {
		made, e := r.made(x)
		if e != api.OK {
			return false, e
		}
		r.row = put(r.row, made)
		news = r.last().n == x.New
	}
	r.forget(x.Throw)
	return news, api.OK
}

// made is the state that an instruction tells, which r does not have.
func (r *Receiver[S]) made(x api.Instruction) (numbered[S], api.Errno) {
	old, has := find(r.row, x.Old)
	if !has || x.New < x.Old {
		return numbered[S]{}, api.ErrFar
	}
	if gone, _ := find(r.row, x.Throw); len(r.row)-gone >= api.MaxStates {
		return numbered[S]{}, api.ErrFull
	}
	made, e := asked(func() (S, api.Errno) {
		// Both are its own: a state may be made in the memory of what it is made of, or change that.
		return r.row[old].x.Copy().Apply(slices.Clone(x.Diff))
	})
	return numbered[S]{x.New, made}, e
}

// forget lets go of the states whose numbers are below n, but for the last one.
func (r *Receiver[S]) forget(n uint64) {
	gone, _ := find(r.row, n)
	// A list of its own, so that those that go are not kept.
	r.row = slices.Clone(r.row[min(gone, len(r.row)-1):])
}

// last is the state with the greatest number.
func (r *Receiver[S]) last() numbered[S] {
	return r.row[len(r.row)-1]
}

// find is where in a row the number n stands, or would, and whether it does.
func find[S any](row []numbered[S], n uint64) (int, bool) {
	return slices.BinarySearchFunc(row, n, func(x numbered[S], n uint64) int { return cmp.Compare(x.n, n) })
}

// put is a row and x, at the place of its number.
func put[S any](row []numbered[S], x numbered[S]) []numbered[S] {
	at, _ := find(row, x.n)
	// Without room behind the first part: x is not to stand where the second one begins.
	return append(append(row[:at:at], x), row[at:]...)
}

// Latest is the state with the greatest number.
func (r *Receiver[S]) Latest() (n uint64, x S) {
	if !r.there() {
		return 0, x
	}
	last := r.last()
	latest, e := copied(last.x)
	if e != api.OK {
		return 0, x
	}
	return last.n, latest
}

// Holds is the numbers of the states that r has.
func (r *Receiver[S]) Holds() []uint64 {
	if !r.there() {
		return nil
	}
	var held []uint64
	for _, x := range r.row {
		held = append(held, x.n)
	}
	return held
}
