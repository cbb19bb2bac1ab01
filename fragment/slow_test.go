package fragment

import (
	"math/big"

	"wayfarer/api"
)

// The document's words, read slowly: numbers without an end, parts cut byte by byte, and a joiner that keeps all parts that ever came and asks them all again.

// slowUint is the form of a number, digit by digit to the base of 128.
func slowUint(n *big.Int) (b []byte) {
	base, rest, digit := big.NewInt(128), new(big.Int).Set(n), new(big.Int)
	for {
		rest.DivMod(rest, base, digit)
		if rest.Sign() == 0 {
			return append(b, byte(digit.Int64()))
		}
		b = append(b, byte(digit.Int64()+128))
	}
}

// slowReadUint is the number at the front of b, and what stands behind it.
func slowReadUint(b []byte) (n *big.Int, behind []byte, e api.Errno) {
	size := 0
	for size == 0 || b[size-1] >= 128 && size < 10 {
		if size == len(b) {
			return nil, nil, api.ErrShort
		}
		size++
	}
	n = new(big.Int)
	for i := size - 1; i >= 0; i-- {
		n.Mul(n, big.NewInt(128))
		n.Add(n, big.NewInt(int64(b[i]%128)))
	}
	if !n.IsUint64() || string(slowUint(n)) != string(b[:size]) {
		return nil, nil, api.ErrForm
	}
	return n, b[size:], api.OK
}

// slowMay is whether a part of the number n may be.
func slowMay(n *big.Int, last bool, size int) bool {
	if n.Sign() < 0 || n.Cmp(big.NewInt(255)) > 0 || size > 1024 {
		return false
	}
	return last || size >= 1
}

func slowMayBe(p api.Part) bool {
	return slowMay(big.NewInt(int64(p.N)), p.Last, len(p.Bytes))
}

func slowWrite(p api.Part) (b []byte, e api.Errno) {
	if !slowMayBe(p) {
		return nil, api.ErrArg
	}
	second := int64(2 * p.N)
	if p.Last {
		second++
	}
	b = append(b, slowUint(new(big.Int).SetUint64(p.Id))...)
	b = append(b, slowUint(big.NewInt(second))...)
	return append(b, p.Bytes...), api.OK
}

func slowRead(b []byte) (none api.Part, e api.Errno) {
	id, b, e := slowReadUint(b)
	if e != api.OK {
		return none, e
	}
	second, b, e := slowReadUint(b)
	if e != api.OK {
		return none, e
	}
	half, odd := new(big.Int).DivMod(second, big.NewInt(2), new(big.Int))
	if !slowMay(half, odd.Sign() != 0, len(b)) {
		return none, api.ErrForm
	}
	return api.Part{Id: id.Uint64(), N: int(half.Int64()), Last: odd.Sign() != 0, Bytes: append([]byte{}, b...)}, api.OK
}

func slowSplit(id uint64, b []byte, size int) (l []api.Part, e api.Errno) {
	if size < 1 || size > 1024 {
		return nil, api.ErrArg
	}
	l = []api.Part{{Id: id}}
	for _, c := range b {
		if len(l[len(l)-1].Bytes) == size {
			l = append(l, api.Part{Id: id, N: len(l)})
		}
		l[len(l)-1].Bytes = append(l[len(l)-1].Bytes, c)
	}
	if len(l) > 256 {
		return nil, api.ErrLimit
	}
	l[len(l)-1].Last = true
	return l, api.OK
}

// slowJoin is a joiner that keeps all that came.
type slowJoin struct{ came []api.Part }

// greatest is the greatest Id that came.
func (j *slowJoin) greatest() (id uint64) {
	for _, p := range j.came {
		id = max(id, p.Id)
	}
	return id
}

// of is what came of an Id, in its order.
func (j *slowJoin) of(id uint64) (l []api.Part) {
	for _, p := range j.came {
		if p.Id == id {
			l = append(l, p)
		}
	}
	return l
}

// slowFirsts is of some parts the first one of each N.
func slowFirsts(l []api.Part) map[int]api.Part {
	m := map[int]api.Part{}
	for i := len(l) - 1; i >= 0; i-- {
		m[l[i].N] = l[i]
	}
	return m
}

// slowWhole is the bytes that parts come to, if they do.
func slowWhole(l []api.Part) (b []byte, whole bool) {
	m := slowFirsts(l)
	least := -1
	for n, p := range m {
		if p.Last && (least < 0 || n < least) {
			least = n
		}
	}
	for n := 0; n <= least; n++ {
		p, ok := m[n]
		if !ok {
			return nil, false
		}
		b = append(b, p.Bytes...)
	}
	return b, least >= 0
}

// slowEnd is how many of some parts it took to come to the end; 0, if they did not.
func slowEnd(l []api.Part) int {
	for i := range l {
		if _, whole := slowWhole(l[:i+1]); whole {
			return i + 1
		}
	}
	return 0
}

func (j *slowJoin) take(p api.Part) (b []byte, done bool, e api.Errno) {
	if !slowMayBe(p) {
		return nil, false, api.ErrArg
	}
	p.Bytes = append([]byte{}, p.Bytes...)
	j.came = append(j.came, p)
	l := j.of(p.Id)
	if p.Id < j.greatest() || slowEnd(l) != len(l) {
		return nil, false, api.OK
	}
	b, done = slowWhole(l)
	return b, done, api.OK
}

func (j *slowJoin) holds() (id uint64, parts, bytes int) {
	id = j.greatest()
	l := j.of(id)
	if slowEnd(l) > 0 {
		return id, 0, 0
	}
	for _, p := range slowFirsts(l) {
		parts++
		bytes += len(p.Bytes)
	}
	return id, parts, bytes
}
