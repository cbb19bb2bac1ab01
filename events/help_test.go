package events

import (
	"math"
	"slices"
	"strings"

	"wayfarer/api"
)

// noise is numbers that look like chance and are always the same ones.
type noise uint64

func (n *noise) next() uint64 {
	*n = *n*6364136223846793005 + 1442695040888963407
	return uint64(*n >> 32)
}

func (n *noise) below(count int) int {
	return int(n.next() % uint64(count))
}

func pick[T any](n *noise, l []T) T {
	return l[n.below(len(l))]
}

func typed(text string) api.Event       { return api.Event{Kind: api.EBytes, Bytes: []byte(text)} }
func pasted(text string) api.Event      { return api.Event{Kind: api.EPaste, Bytes: []byte(text)} }
func sized(cols, rows int) api.Event    { return api.Event{Kind: api.EResize, Cols: cols, Rows: rows} }
func arrow(letter byte) api.Event       { return api.Event{Kind: api.EArrow, Arrow: letter} }
func listed(l ...api.Event) []api.Event { return l }

// arrows is so many arrows, no two neighbours alike.
func arrows(count int) (l []api.Event) {
	for i := range count {
		l = append(l, arrow(byte('A'+i%4)))
	}
	return l
}

// sound is events that may be, at each edge of their kinds.
func sound() []api.Event {
	l := listed(sized(1, 1), sized(512, 512), sized(1, 512), sized(127, 128), sized(80, 24), pasted(""), arrow('A'), arrow('B'), arrow('C'), arrow('D'))
	for _, size := range []int{1, 2, 127, 128, 4095, 4096} {
		l = append(l, typed(strings.Repeat("e", size)), pasted(strings.Repeat("e", size)))
	}
	for c := range 256 {
		l = append(l, typed(string([]byte{byte(c)})), pasted(string([]byte{byte(c), 0})))
	}
	return l
}

// slowMay is whether an event may be, by layer 7's table.
func slowMay(x api.Event) bool {
	bare := x.Cols == 0 && x.Rows == 0
	switch x.Kind {
	case 1:
		return len(x.Bytes) >= 1 && len(x.Bytes) <= 4096 && bare && x.Arrow == 0
	case 2:
		return len(x.Bytes) == 0 && x.Cols >= 1 && x.Cols <= 512 && x.Rows >= 1 && x.Rows <= 512 && x.Arrow == 0
	case 3:
		return len(x.Bytes) <= 4096 && bare && x.Arrow == 0
	case 4:
		return len(x.Bytes) == 0 && bare && strings.IndexByte("ABCD", x.Arrow) >= 0
	}
	return false
}

// broken is events that may not be, in each way of which layer 7's table speaks.
func broken() []api.Event {
	l := listed(
		api.Event{}, api.Event{Bytes: []byte("a")}, api.Event{Arrow: 'A'}, api.Event{Cols: 1, Rows: 1},
		typed(""), typed(strings.Repeat("a", 4097)), typed(strings.Repeat("a", 1<<17)),
		pasted(strings.Repeat("a", 4097)), pasted(strings.Repeat("a", 1<<17)),
	)
	for kind := 5; kind < 256; kind++ {
		l = append(l, api.Event{Kind: api.EventKind(kind)}, api.Event{Kind: api.EventKind(kind), Bytes: []byte("a")})
	}
	for _, n := range []int{math.MinInt, -1, 0, 513, 1<<16 + 1, 1<<32 + 1, math.MaxInt} {
		l = append(l, sized(n, 1), sized(1, n), sized(n, n))
	}
	for c := range 256 {
		if c < 'A' || c > 'D' {
			l = append(l, arrow(byte(c)))
		}
	}
	for _, whole := range listed(typed("a"), pasted(""), pasted("a"), sized(80, 24), arrow('A')) {
		for _, x := range others(whole) {
			if !slowMay(x) {
				l = append(l, x)
			}
		}
	}
	return l
}

// others is events that are not x, each by one field alone.
func others(x api.Event) (l []api.Event) {
	for _, other := range []func(y *api.Event){
		func(y *api.Event) { y.Kind = 0 },
		func(y *api.Event) { y.Kind = 1 },
		func(y *api.Event) { y.Kind = 2 },
		func(y *api.Event) { y.Kind = 3 },
		func(y *api.Event) { y.Kind = 4 },
		func(y *api.Event) { y.Kind = 255 },
		func(y *api.Event) { y.Cols++ },
		func(y *api.Event) { y.Cols = -1 },
		func(y *api.Event) { y.Cols += 1 << 32 },
		func(y *api.Event) { y.Rows++ },
		func(y *api.Event) { y.Rows = math.MinInt },
		func(y *api.Event) { y.Rows += 1 << 32 },
		func(y *api.Event) { y.Arrow++ },
		func(y *api.Event) { y.Arrow = 255 },
		func(y *api.Event) { y.Bytes = append(slices.Clone(y.Bytes), 0) },
		func(y *api.Event) { y.Bytes = append([]byte{0}, y.Bytes...) },
		func(y *api.Event) { y.Bytes = slices.Clone(y.Bytes[:max(len(y.Bytes), 1)-1]) },
		func(y *api.Event) { y.Bytes = turned(y.Bytes, 0) },
		func(y *api.Event) { y.Bytes = turned(y.Bytes, len(y.Bytes)/2) },
		func(y *api.Event) { y.Bytes = turned(y.Bytes, len(y.Bytes)-1) },
	} {
		y := x
		if len(y.Bytes) == 0 {
			y.Bytes = nil
		}
		other(&y)
		if !sameEvent(x, y) {
			l = append(l, y)
		}
	}
	return l
}

// turned is bytes as b, the highest bit of one of them turned about; just b, if it has no such byte.
func turned(b []byte, at int) []byte {
	out := slices.Clone(b)
	if at >= 0 && at < len(out) {
		out[at] ^= 128
	}
	return out
}

// sameEvent asks for the fields one by one.
func sameEvent(x, y api.Event) bool {
	return x.Kind == y.Kind && x.Cols == y.Cols && x.Rows == y.Rows && x.Arrow == y.Arrow && string(x.Bytes) == string(y.Bytes)
}

func sameLog(l, m []api.Event) bool {
	return slices.EqualFunc(l, m, sameEvent)
}

// number is a number's form, by layer 7's words.
func number(n int) string {
	if n < 128 {
		return string([]byte{byte(n)})
	}
	return string([]byte{byte(n%128 + 128)}) + number(n/128)
}

// slowForm is the form of events, by layer 7's table.
func slowForm(l []api.Event) string {
	var form strings.Builder
	form.WriteString(number(len(l)))
	for _, x := range l {
		form.WriteByte(byte(x.Kind))
		form.WriteString(map[api.EventKind]string{
			1: number(len(x.Bytes)) + string(x.Bytes),
			2: number(x.Cols) + number(x.Rows),
			3: number(len(x.Bytes)) + string(x.Bytes),
			4: string([]byte{x.Arrow}),
		}[x.Kind])
	}
	return form.String()
}

// slowLog is whether events are a log, by the chapter's words.
func slowLog(l []api.Event) bool {
	for _, x := range l {
		if !slowMay(x) {
			return false
		}
	}
	return len(l) <= 4096
}

// slowBegins is whether b goes on from a.
func slowBegins(a, b []api.Event) bool {
	for i, x := range a {
		if i >= len(b) || !sameEvent(x, b[i]) {
			return false
		}
	}
	return true
}

// slowDiff is a difference, by the chapter's words.
func slowDiff(a, b []api.Event) (string, api.Errno) {
	switch {
	case !slowLog(a), !slowLog(b):
		return "", api.ErrArg
	case !slowBegins(a, b):
		return "", api.ErrOrder
	case len(slowForm(b[len(a):])) > 65536:
		return "", api.ErrLimit
	}
	return slowForm(b[len(a):]), api.OK
}

// someEvent is an event that may be, mostly.
func someEvent(n *noise) api.Event {
	text := strings.Repeat(pick(n, []string{"a", "\x00", "\x1b[", "\xff\x80", "é"}), 1+n.below(4))
	x := pick(n, listed(typed(text), typed(text), pasted(text), pasted(""), sized(1+n.below(512), 1+n.below(512)), arrow(byte('A'+n.below(4)))))
	if n.below(60) == 0 {
		x = pick(n, listed(api.Event{Kind: api.EventKind(n.below(7)), Bytes: []byte(text), Arrow: byte(n.below(70))}, sized(n.below(520), n.below(520)), arrow(byte(n.below(256)))))
	}
	return x
}

// someLog is up to so many events, all of which may be.
func someLog(n *noise, most int) (l []api.Event) {
	for range n.below(most + 1) {
		if x := someEvent(n); slowMay(x) {
			l = append(l, x)
		}
	}
	return l
}

// roomy is a list as l with room behind its end, which has elements of its own.
func roomy[T any](l []T, more T) []T {
	r := append(make([]T, 0, len(l)+5), l...)
	for range 5 {
		r = append(r, more)
	}
	return r[:len(l)]
}

// apart is events as l in memory of their own, with such room behind the list and behind the bytes of each.
func apart(l []api.Event) []api.Event {
	out := slices.Clone(l)
	for i := range out {
		out[i].Bytes = roomy(out[i].Bytes, 'e')
	}
	return roomy(out, api.Event{Kind: api.EArrow, Arrow: 'C', Bytes: []byte("e")})
}

// sameToEnd is whether two lists of events are alike, up to the end of their room and of that of their bytes.
func sameToEnd(l, m []api.Event) bool {
	return slices.EqualFunc(l[:cap(l)], m[:cap(m)], func(x, y api.Event) bool {
		same := len(x.Bytes) == len(y.Bytes)
		x.Bytes, y.Bytes = x.Bytes[:cap(x.Bytes)], y.Bytes[:cap(y.Bytes)]
		return same && sameEvent(x, y)
	})
}

// spoil turns all bytes of a list about, those in the room behind its end too.
func spoil(b []byte) {
	b = b[:cap(b)]
	for i := range b {
		b[i] ^= 255
	}
}

// spoilLog does so with all bytes of all events, and puts other events in the place of these.
func spoilLog(l []api.Event) {
	l = l[:cap(l)]
	for i := range l {
		spoil(l[i].Bytes)
		l[i] = api.Event{Kind: 99, Cols: -1, Rows: -1, Arrow: 99, Bytes: []byte("spoilt")}
	}
}

// short is a text that is not too long to be told.
func short(text string) string {
	return text[:min(len(text), 60)]
}
