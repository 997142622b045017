package rope

import (
	"slices"

	"sealskin/api"
)

// room is how many code points a leaf holds at most. All leaves are at least half full, unless there is one alone.
const room = 64

// sight is which labels are seen at one.
type sight [api.MaxLabels]bool

// node is a leaf, which has code points, or a knot of two nodes.
type node struct {
	elems       []api.Elem
	left, right int
	high        int
	size        int
	count       [api.MaxLabels]int
}

// arena is a tree of nodes, which are named by their places. No two sides of a knot differ in height by more than one. At place 0 stands the empty node, which is no part of any tree.
type arena struct {
	nodes []node
	free  []int
	root  int
}

func (a *arena) place(n node) int {
	if k := len(a.free); k > 0 {
		t := a.free[k-1]
		a.free = a.free[:k-1]
		a.nodes[t] = n
		return t
	}
	a.nodes = append(a.nodes, n)
	return len(a.nodes) - 1
}

func (a *arena) release(t int) {
	a.nodes[t] = node{}
	a.free = append(a.free, t)
}

func (a *arena) leaf(l []api.Elem) int {
	n := node{elems: slices.Clone(l), high: 1, size: len(l)}
	for _, e := range l {
		n.count[e.Label]++
	}
	return a.place(n)
}

func (a *arena) knot(left, right int) int {
	return a.tie(a.place(node{}), left, right)
}

// tie makes t the knot of two nodes, whatever it was a knot of.
func (a *arena) tie(t, left, right int) int {
	l, r := &a.nodes[left], &a.nodes[right]
	n := node{left: left, right: right, high: 1 + max(l.high, r.high), size: l.size + r.size, count: l.count}
	for i, k := range r.count {
		n.count[i] += k
	}
	a.nodes[t] = n
	return t
}

// balance ties t, of whose sides one may be higher than the other one by two.
func (a *arena) balance(t, left, right int) int {
	switch a.lean(left, right) {
	case 2:
		if n := a.nodes[left]; a.lean(n.left, n.right) < 0 {
			left = a.turnLeft(left)
		}
		return a.turnRight(a.tie(t, left, right))
	case -2:
		if n := a.nodes[right]; a.lean(n.left, n.right) > 0 {
			right = a.turnRight(right)
		}
		return a.turnLeft(a.tie(t, left, right))
	}
	return a.tie(t, left, right)
}

func (a *arena) lean(left, right int) int { return a.nodes[left].high - a.nodes[right].high }

func (a *arena) turnLeft(t int) int {
	n := a.nodes[t]
	r := a.nodes[n.right]
	return a.tie(n.right, a.tie(t, n.left, r.left), r.right)
}

func (a *arena) turnRight(t int) int {
	n := a.nodes[t]
	l := a.nodes[n.left]
	return a.tie(n.left, l.left, a.tie(t, l.right, n.right))
}

// join is one tree of two, the second behind the first.
func (a *arena) join(left, right int) int {
	if left == 0 {
		return right
	}
	if right == 0 {
		return left
	}
	switch d := a.lean(left, right); {
	case d > 1:
		n := a.nodes[left]
		return a.balance(left, n.left, a.join(n.right, right))
	case d < -1:
		n := a.nodes[right]
		return a.balance(right, a.join(left, n.left), n.right)
	}
	return a.knot(left, right)
}

// split takes a tree apart ahead of its i-th code point, with which a leaf must begin.
func (a *arena) split(t, i int) (left, right int) {
	n := a.nodes[t]
	if i <= 0 {
		return 0, t
	}
	if i >= n.size {
		return t, 0
	}
	a.release(t)
	if k := a.nodes[n.left].size; i > k {
		left, right = a.split(n.right, i-k)
		return a.join(n.left, left), right
	}
	left, right = a.split(n.left, i)
	return left, a.join(right, n.right)
}

// plant is a tree of code points; as it goes by halves, its leaves are at least half full.
func (a *arena) plant(l []api.Elem) int {
	switch k := len(l); {
	case k == 0:
		return 0
	case k <= room:
		return a.leaf(l)
	default:
		return a.join(a.plant(l[:k/2]), a.plant(l[k/2:]))
	}
}

// fell gives a tree's nodes back, and adds its code points to l.
func (a *arena) fell(t int, l []api.Elem) []api.Elem {
	if t == 0 {
		return l
	}
	n := a.nodes[t]
	a.release(t)
	l = append(a.fell(n.left, l), n.elems...)
	return a.fell(n.right, l)
}

// leafAt is the leaf of the i-th code point, and how many stand ahead of it; behind the end, the last leaf.
func (a *arena) leafAt(i int) (t, from int) {
	t = a.root
	for a.isKnot(t) {
		n := &a.nodes[t]
		t = n.left
		if k := a.nodes[n.left].size; i >= from+k {
			t = n.right
			from += k
		}
	}
	return t, from
}

func (a *arena) isKnot(t int) bool { return a.nodes[t].high > 1 }

// bounds is where the leaf of the i-th code point begins and ends.
func (a *arena) bounds(i int) (from, to int) {
	t, from := a.leafAt(i)
	return from, from + a.nodes[t].size
}

// around is the bounds of the whole leaves in which n code points stand from i on, in whose place come new ones. It is wider by a leaf, if what is in them then would fill less than half of one.
func (a *arena) around(i, n, come int) (from, to int) {
	from, _ = a.bounds(i)
	_, to = a.bounds(i + n)
	if to-from-n+come < room/2 {
		if to < a.nodes[a.root].size {
			_, to = a.bounds(to)
		} else if from > 0 {
			from, _ = a.bounds(from - 1)
		}
	}
	return from, to
}

// splice puts l in the place of n code points from i on, which it answers: copied, so that in the room behind them stand no others.
func (a *arena) splice(i, n int, l []api.Elem) []api.Elem {
	from, to := a.around(i, n, len(l))
	ahead, rest := a.split(a.root, from)
	old, behind := a.split(rest, to-from)
	was := a.fell(old, nil)
	i -= from
	now := slices.Concat(was[:i], l, was[i+n:])
	a.root = a.join(a.join(ahead, a.plant(now)), behind)
	return slices.Clone(was[i : i+n])
}

// each goes through all code points in order.
func (a *arena) each(yield func(api.Elem) bool) { a.walk(a.root, yield) }

func (a *arena) walk(t int, yield func(api.Elem) bool) bool {
	if t == 0 {
		return true
	}
	n := &a.nodes[t]
	for _, e := range n.elems {
		if !yield(e) {
			return false
		}
	}
	return a.walk(n.left, yield) && a.walk(n.right, yield)
}

// get is the i-th code point, which there must be.
func (a *arena) get(i int) api.Elem {
	t, from := a.leafAt(i)
	return a.nodes[t].elems[i-from]
}

// seen is how many code points of a tree are of labels that are seen.
func (a *arena) seen(t int, s sight) int {
	sum := 0
	for label, k := range a.nodes[t].count {
		if s[label] {
			sum += k
		}
	}
	return sum
}

// find is where that code point stands which is seen, and ahead of which at are seen; there must be one.
func (a *arena) find(s sight, at int) int {
	t, i := a.root, 0
	for a.isKnot(t) {
		n := &a.nodes[t]
		t = n.left
		if k := a.seen(n.left, s); at >= k {
			t = n.right
			at -= k
			i += a.nodes[n.left].size
		}
	}
	for _, e := range a.nodes[t].elems {
		if s[e.Label] {
			at--
		}
		if at < 0 {
			break
		}
		i++
	}
	return i
}

// ahead is how many of the first i code points are seen.
func (a *arena) ahead(s sight, i int) int {
	t, sum := a.root, 0
	for a.isKnot(t) {
		n := &a.nodes[t]
		t = n.left
		if k := a.nodes[n.left].size; i >= k {
			t = n.right
			i -= k
			sum += a.seen(n.left, s)
		}
	}
	for _, e := range a.nodes[t].elems[:i] {
		if s[e.Label] {
			sum++
		}
	}
	return sum
}
