package edit

import (
	"sealskin/api"
)

// feed hands out an edit piece by piece.
type feed struct {
	head api.Part // what is left of the part that is being handed out
	rest []api.Part
}

func feedOf(e []api.Part) *feed {
	f := &feed{rest: e}
	f.next()
	return f
}

// next leaves a head of no kind behind the end.
func (f *feed) next() {
	f.head = api.Part{}
	if len(f.rest) > 0 {
		f.head, f.rest = f.rest[0], f.rest[1:]
	}
}

func (f *feed) kind() int { return f.head.Kind }

func (f *feed) whole() api.Part { return f.take(f.head.N) }

func (f *feed) take(n int) api.Part {
	p := f.head
	if n >= p.N {
		f.next()
		return p
	}
	first, rest := cut(p.Text, n)
	f.head.N, f.head.Text = p.N-n, rest
	p.N, p.Text = n, first
	return p
}

// both hands out as much of two as their heads have in common.
func both(a, b *feed) (p, q api.Part) {
	n := min(a.head.N, b.head.N)
	return a.take(n), b.take(n)
}

// Compose is one edit that does what two do, one behind the other.
func Compose(a, b []api.Part) ([]api.Part, api.Errno) {
	_, to, bad := Size(a)
	if bad != api.OK || Check(b, to) != api.OK {
		return nil, api.ErrEdit
	}
	var l []api.Part
	f, g := feedOf(a), feedOf(b)
	for f.kind() != 0 || g.kind() != 0 {
		switch {
		case f.kind() == api.Drop:
			l = append(l, f.whole())
		case g.kind() == api.Put:
			l = append(l, g.whole())
		default:
			l = append(l, inRow(both(f, g)))
		}
	}
	return Norm(l...), api.OK
}

// inRow is what becomes of a piece that the first edit keeps or puts, and the second one keeps or drops. Where nothing does, it is a part that does not fit: Norm leaves it out.
func inRow(p, q api.Part) api.Part {
	switch {
	case q.Kind == api.Keep:
		return p
	case p.Kind == api.Keep:
		return q
	}
	return api.Part{}
}

// Transform is two edits of one sequence, each as it is behind the other one; what a puts stands ahead of what b puts at the same place.
func Transform(a, b []api.Part) (one, two []api.Part, bad api.Errno) {
	from, _, bad := Size(a)
	if bad != api.OK || Check(b, from) != api.OK {
		return nil, nil, api.ErrEdit
	}
	f, g := feedOf(a), feedOf(b)
	for f.kind() != 0 || g.kind() != 0 {
		switch {
		case f.kind() == api.Put:
			p := f.whole()
			one, two = append(one, p), append(two, keep(p.N))
		case g.kind() == api.Put:
			q := g.whole()
			one, two = append(one, keep(q.N)), append(two, q)
		default:
			p, q := both(f, g)
			one, two = append(one, beside(p, q)), append(two, beside(q, p))
		}
	}
	return inLimit(Norm(one...), Norm(two...))
}

// beside is what becomes of a piece that an edit keeps or drops, once the other one has kept or dropped it.
func beside(p, other api.Part) api.Part {
	if other.Kind == api.Drop {
		return api.Part{}
	}
	return p
}

// inLimit asks the first one alone: both make the same sequence, of something that an edit made.
func inLimit(one, two []api.Part) ([]api.Part, []api.Part, api.Errno) {
	if _, _, bad := Size(one); bad != api.OK {
		return nil, nil, api.ErrLong
	}
	return one, two, api.OK
}
