package match

import "sealskin/api"

// Kinds of a pattern's parts.
const (
	eats    = iota // a code point of a set
	begins         // a line's beginning
	ends           // a line's end
	group          // a pattern of its own, that is saved
	row            // counted parts, one behind the other
	rows           // rows, one of which stands there
	counted        // a part so many times
)

// part is one of a pattern, with the parts that it is made of.
type part struct {
	kind   int
	number int // eats: which set; group: which group
	inner  []part
	times
}

// times is how often a counted part stands; a lazy one as seldom as can be.
type times struct {
	least, most int
	lazy        bool
}

const (
	endless  = -1 // most, where there is no bound
	maxTimes = 100
	maxDepth = 20
	nothing  = -1 // what stands at a pattern's end: no code point
)

// reader goes through a pattern once. Where it can't go on it stays: that is the place that is told.
type reader struct {
	runes  []rune
	at     int
	depth  int // in how many groups it is
	groups int
	sets   []set
}

// all is the whole pattern. A ) outside of all groups is what is left over.
func (r *reader) all() (part, api.Errno) {
	p, bad := r.rows()
	if bad == api.OK && r.at < len(r.runes) {
		bad = api.ErrWord
	}
	return p, bad
}

func (r *reader) next() rune {
	if r.at == len(r.runes) {
		return nothing
	}
	return r.runes[r.at]
}

func (r *reader) takes(c rune) bool {
	if r.next() != c {
		return false
	}
	r.at++
	return true
}

func (r *reader) rows() (part, api.Errno) {
	p := part{kind: rows}
	for {
		x, bad := r.row()
		if bad != api.OK {
			return part{}, bad
		}
		p.inner = append(p.inner, x)
		if !r.takes('|') {
			return p, api.OK
		}
	}
}

func (r *reader) row() (part, api.Errno) {
	p := part{kind: row}
	for c := r.next(); c != nothing && c != '|' && c != ')'; c = r.next() {
		x, bad := r.counted()
		if bad != api.OK {
			return part{}, bad
		}
		p.inner = append(p.inner, x)
	}
	return p, api.OK
}

func (r *reader) counted() (part, api.Errno) {
	p, bad := r.part()
	if bad != api.OK {
		return part{}, bad
	}
	var t times
	switch c := r.next(); c {
	case '*':
		t = times{least: 0, most: endless}
	case '+':
		t = times{least: 1, most: endless}
	case '?':
		t = times{least: 0, most: 1}
	case '{':
		t, bad = r.bounds()
	default:
		return p, api.OK
	}
	if bad != api.OK {
		return part{}, bad
	}
	r.at++
	t.lazy = r.takes('?')
	return part{kind: counted, inner: []part{p}, times: t}, api.OK
}

// bounds goes from a { to its }, and stays there, as at the other signs.
func (r *reader) bounds() (times, api.Errno) {
	r.at++
	least, bad := r.number()
	if bad != api.OK {
		return times{}, bad
	}
	most := least
	if r.takes(',') {
		most = endless
		if r.next() != '}' {
			most, bad = r.number()
		}
		if bad != api.OK {
			return times{}, bad
		}
	}
	if r.next() != '}' || most != endless && most < least {
		return times{}, api.ErrWord
	}
	return times{least: least, most: most}, api.OK
}

// number stays at the digit that can't stand there: one that makes it too great, or one behind a nought ahead.
func (r *reader) number() (int, api.Errno) {
	from, n := r.at, 0
	for ; digits()(r.next()); r.at++ {
		more := n*10 + int(r.next()-'0')
		if more > maxTimes || r.at > from && n == 0 {
			return 0, api.ErrWord
		}
		n = more
	}
	if r.at == from {
		return 0, api.ErrWord
	}
	return n, api.OK
}

func (r *reader) part() (part, api.Errno) {
	c := r.next()
	switch c {
	case '*', '+', '?', '{', '}', ']':
		return part{}, api.ErrWord
	case '(':
		return r.group()
	case '[':
		return r.eating(r.list())
	case '\\':
		return r.eating(r.sign())
	}
	r.at++
	switch c {
	case '^':
		return part{kind: begins}, api.OK
	case '$':
		return part{kind: ends}, api.OK
	case '.':
		return r.eating(not(one(newline)), api.OK)
	}
	return r.eating(one(c), api.OK)
}

// eating gives each set that the pattern tells a number of its own, by which a text's code points are asked once each, however often the set stands.
func (r *reader) eating(s set, bad api.Errno) (part, api.Errno) {
	if bad != api.OK {
		return part{}, bad
	}
	r.sets = append(r.sets, s)
	return part{kind: eats, number: len(r.sets) - 1}, api.OK
}

func (r *reader) group() (part, api.Errno) {
	r.at++
	if r.depth == maxDepth {
		return part{}, api.ErrLong
	}
	r.depth++
	r.groups++
	number := r.groups
	x, bad := r.rows()
	if bad != api.OK {
		return part{}, bad
	}
	r.depth--
	if !r.takes(')') {
		return part{}, api.ErrWord
	}
	return part{kind: group, number: number, inner: []part{x}}, api.OK
}

func (r *reader) sign() (set, api.Errno) {
	r.at++
	c := r.next()
	s, ok := signs(c)
	if c == nothing || !ok {
		return nil, api.ErrWord
	}
	r.at++
	return s, api.OK
}

// list goes from a [ to its ].
func (r *reader) list() (set, api.Errno) {
	r.at++
	but := r.takes('^')
	var l []set
	for len(l) == 0 || r.next() != ']' {
		s, bad := r.thing()
		if bad != api.OK {
			return nil, bad
		}
		l = append(l, s)
	}
	r.at++
	if but {
		return not(anyOf(l...)), api.OK
	}
	return anyOf(l...), api.OK
}

// thing is one of a list.
func (r *reader) thing() (set, api.Errno) {
	c := r.next()
	switch c {
	case nothing, '[', ']':
		return nil, api.ErrWord
	case '\\':
		return r.sign()
	}
	r.at++
	if !r.spans() {
		return one(c), api.OK
	}
	r.at++
	to := r.next()
	if to < c || to == '\\' || to == '[' {
		return nil, api.ErrWord
	}
	r.at++
	return span(c, to), api.OK
}

// spans tells whether a - parts two code points: one just ahead of the ] stands for itself.
func (r *reader) spans() bool {
	return r.next() == '-' && (r.at+1 == len(r.runes) || r.runes[r.at+1] != ']')
}
