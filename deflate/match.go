package deflate

import "wayfarer/api"

const (
	mostTries = 128  // pieces that are held against one place, so that bytes which are all alike take no longer than others
	tooFar    = 4096 // from farther than that a piece of three costs more than its bytes do
	none      = -1
)

// start is the bytes that a piece begins with, by which it is found.
type start [leastLength]byte

// finder finds pieces of bytes that stood ahead of a place.
type finder struct {
	b     []byte
	last  map[start]int // the last place, of those that are known, where a start stands
	ahead []int         // for each place that is known, the next one ahead with the same start, or none
}

func newFinder(b []byte) *finder {
	return &finder{b: b, last: make(map[start]int)}
}

// startAt is the start at a place that has one.
func (f *finder) startAt(at int) start {
	return start{f.b[at], f.b[at+1], f.b[at+2]}
}

// lastOf is the last place that is known where a start stands, or none.
func (f *finder) lastOf(s start) int {
	if place, ok := f.last[s]; ok {
		return place
	}
	return none
}

// know makes known all places ahead of one.
func (f *finder) know(at int) {
	for place := len(f.ahead); place < at; place++ {
		s := f.startAt(place)
		f.ahead = append(f.ahead, f.lastOf(s))
		f.last[s] = place
	}
}

// longest is the longest piece for a place, the nearest one of such, or a token without a length if there is none. It is asked for places that rise.
func (f *finder) longest(at int) api.Token {
	if at+leastLength > len(f.b) {
		return api.Token{}
	}
	f.know(at)
	best := api.Token{}
	most := min(mostLength, len(f.b)-at)
	place := f.lastOf(f.startAt(at))
	for tries := 0; tries < mostTries && place != none && at-place <= mostDistance && best.Length < most; tries++ {
		if length := f.alike(place, at, most); length > best.Length {
			best = api.Token{Length: length, Distance: at - place}
		}
		place = f.ahead[place]
	}
	if best.Length == leastLength && best.Distance > tooFar {
		return api.Token{}
	}
	return best
}

// alike is how many bytes from two places on are the same, up to most.
func (f *finder) alike(place, at, most int) int {
	length := leastLength
	for length < most && f.b[place+length] == f.b[at+length] {
		length++
	}
	return length
}
