package octet

import (
	"math"

	"sealskin/api"
)

// place is where in some bytes one reads. Each of its calls moves it behind what it answers, or, with an error, leaves it where it was. The bytes that it answers are those it reads in: whoever hands them out copies them.
type place struct {
	all []byte
	at  int
}

func (p *place) left() int { return len(p.all) - p.at }

func (p *place) take(n int) ([]byte, api.Errno) {
	if n > p.left() {
		return nil, api.ErrShort
	}
	b := p.all[p.at : p.at+n]
	p.at += n
	return b, api.OK
}

func (p *place) within(lo, hi int) (int, api.Errno) {
	next := *p
	b, e := next.take(numberSize)
	if e != api.OK {
		return 0, e
	}
	u := uint64(0)
	for _, x := range b {
		u = u<<8 | uint64(x)
	}
	if u > math.MaxInt || int(u) < lo || int(u) > hi {
		return 0, api.ErrRange
	}
	*p = next
	return int(u), api.OK
}

func (p *place) bytes(most int) ([]byte, api.Errno) {
	next := *p
	n, e := next.within(0, math.MaxInt)
	if e != api.OK {
		return nil, e
	}
	if n > max(most, 0) {
		return nil, api.ErrLong
	}
	b, e := next.take(n)
	if e != api.OK {
		return nil, e
	}
	*p = next
	return b, api.OK
}

func (p *place) block() ([]byte, api.Errno) {
	next := *p
	data, e := next.bytes(api.MaxFrame)
	if e != api.OK {
		return nil, e
	}
	summed := p.all[p.at:next.at]
	b, e := next.take(sumSize)
	if e != api.OK {
		return nil, e
	}
	if Sum(summed) != uint32(b[0])<<24|uint32(b[1])<<16|uint32(b[2])<<8|uint32(b[3]) {
		return nil, api.ErrSum
	}
	*p = next
	return data, api.OK
}
