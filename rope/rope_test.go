package rope

import (
	"math"
	"math/rand"
	"slices"
	"strings"
	"testing"
	"time"

	"sealskin/api"
	"sealskin/lattice"
)

// four is a policy of labels 0 low, 1 left and 2 right above it, and 3 high above all.
func four() api.Policy {
	return api.Policy{
		Labels:  []api.Label{{}, {Level: 1, Comps: 1}, {Level: 1, Comps: 2}, {Level: 2, Comps: 3}},
		Quotas:  make([]api.Quota, 4),
		Entries: []api.Entry{{Secret: "s"}},
	}
}

// wide is a policy of all labels that there may be.
func wide() api.Policy {
	p := api.Policy{Entries: []api.Entry{{Secret: "s"}}, Quotas: make([]api.Quota, api.MaxLabels)}
	for i := range api.MaxLabels {
		p.Labels = append(p.Labels, api.Label{Level: i % 16, Comps: uint32(i / 16)})
	}
	return p
}

func fresh(t *testing.T, p api.Policy) *Rope {
	t.Helper()
	r, e := New(p)
	if e != api.OK || r == nil {
		t.Fatal(e)
	}
	return r
}

// of is code points of a text, with labels by digits.
func of(text, labels string) []api.Elem {
	var l []api.Elem
	for i, c := range []rune(text) {
		l = append(l, api.Elem{ID: 100 + i, Rune: c, Label: int(labels[i] - '0')})
	}
	return l
}

// model is a sequence as a plain list: what a rope must tell, found by going through all.
type model struct {
	p api.Policy
	l []api.Elem
}

func (m model) seen(view int) []api.Elem {
	var l []api.Elem
	for _, e := range m.l {
		if lattice.Sees(m.p, view, e.Label) {
			l = append(l, e)
		}
	}
	return l
}

func text(l []api.Elem) string {
	var b strings.Builder
	for _, e := range l {
		b.WriteRune(e.Rune)
	}
	return b.String()
}

// holds compares all that a rope tells with the model, at every place and some beyond.
func holds(t *testing.T, r *Rope, m model) {
	t.Helper()
	if r.Len() != len(m.l) || !slices.Equal(r.Elems(), m.l) {
		t.Fatalf("%d code points, want %d: %v, want %v", r.Len(), len(m.l), r.Elems(), m.l)
	}
	for i := -1; i <= len(m.l); i++ {
		e, ok := r.At(i)
		if inside := i >= 0 && i < len(m.l); ok != inside || inside && e != m.l[i] || !inside && e != (api.Elem{}) {
			t.Fatalf("At(%d): %v, %v", i, e, ok)
		}
	}
	for view := range m.p.Labels {
		holdsAt(t, r, m, view)
	}
}

func holdsAt(t *testing.T, r *Rope, m model, view int) {
	t.Helper()
	l := m.seen(view)
	n := 0
	for _, e := range m.l {
		if e.Label == view {
			n++
		}
	}
	if r.Count(view) != n || r.Size(view) != len(l) || !slices.Equal(r.Seen(view), l) || r.Text(view) != text(l) {
		t.Fatalf("label %d: %d, %d, %q; want %d, %d, %q", view, r.Count(view), r.Size(view), r.Text(view), n, len(l), text(l))
	}
	at := 0
	for i := 0; i <= len(m.l); i++ {
		if k, e := r.View(view, i); k != at || e != api.OK {
			t.Fatalf("View(%d, %d): %d, %d; want %d", view, i, k, e, at)
		}
		if i == len(m.l) || !lattice.Sees(m.p, view, m.l[i].Label) {
			continue
		}
		if k, e := r.Index(view, at); k != i || e != api.OK {
			t.Fatalf("Index(%d, %d): %d, %d; want %d", view, at, k, e, i)
		}
		at++
		if k, e := r.Place(view, at); k != i+1 || e != api.OK {
			t.Fatalf("Place(%d, %d): %d, %d; want %d", view, at, k, e, i+1)
		}
	}
	if k, e := r.Place(view, 0); k != 0 || e != api.OK {
		t.Fatalf("Place(%d, 0): %d, %d", view, k, e)
	}
}

// sound asks the tree itself: what its nodes count, how high and how full they are, and that no node is lost.
func sound(t *testing.T, r *Rope) {
	t.Helper()
	nodes := soundNode(t, r, r.root)
	if nodes+len(r.free)+1 != len(r.nodes) {
		t.Fatalf("%d nodes, %d free, of %d", nodes, len(r.free), len(r.nodes))
	}
}

func soundNode(t *testing.T, r *Rope, at int) int {
	t.Helper()
	if at == 0 {
		return 0
	}
	n := r.nodes[at]
	if n.left == 0 {
		if n.right != 0 || n.high != 1 || n.size != len(n.elems) || n.size > room || n.size == 0 || at != r.root && n.size < room/2 {
			t.Fatalf("a leaf: %+v", n)
		}
		return 1
	}
	a, b := r.nodes[n.left], r.nodes[n.right]
	d := a.high - b.high
	if n.elems != nil || d < -1 || d > 1 || n.high != 1+max(a.high, b.high) || n.size != a.size+b.size {
		t.Fatalf("a knot: %+v of %+v and %+v", n, a, b)
	}
	return 1 + soundNode(t, r, n.left) + soundNode(t, r, n.right)
}

func TestP41New(t *testing.T) {
	r := fresh(t, four())
	holds(t, r, model{p: four()})
	bad := four()
	bad.Quotas = nil
	for _, p := range []api.Policy{{}, bad} {
		if r, e := New(p); r != nil || e != api.ErrPolicy {
			t.Errorf("%v: %v, %d", p, r, e)
		}
	}
}

func TestP41Tells(t *testing.T) {
	r := fresh(t, four())
	l := of("aBcDé𝄞", "010230")
	if e := r.Insert(0, l...); e != api.OK {
		t.Fatal(e)
	}
	holds(t, r, model{four(), l})
	for view, want := range []string{"ac𝄞", "aBc𝄞", "acD𝄞", "aBcDé𝄞"} {
		if s := r.Text(view); s != want {
			t.Errorf("%d sees %q", view, s)
		}
	}
	for _, i := range []int{math.MinInt, -1, 6, 7, math.MaxInt} {
		if e, ok := r.At(i); ok || e != (api.Elem{}) {
			t.Errorf("At(%d): %v, %v", i, e, ok)
		}
	}
	for _, no := range []int{math.MinInt, -1, 4, 31, 32, math.MaxInt} {
		if r.Count(no) != 0 || r.Size(no) != 0 || len(r.Seen(no)) != 0 || r.Text(no) != "" {
			t.Errorf("of label %d something is told", no)
		}
	}
}

func TestP42Insert(t *testing.T) {
	r := fresh(t, four())
	for _, c := range []struct {
		i        int
		l        []api.Elem
		want     string
		wantHigh string
	}{
		{0, nil, "", ""},
		{0, of("bd", "00"), "bd", "bd"},
		{0, of("a", "0"), "abd", "abd"},
		{2, of("C", "3"), "abd", "abCd"},
		{4, of("ef", "00"), "abdef", "abCdef"},
		{3, nil, "abdef", "abCdef"},
		{5, of("\x00\ud7ff\ue000\U0010ffff", "0000"), "abde\x00\ud7ff\ue000\U0010fffff", "abCde\x00\ud7ff\ue000\U0010fffff"},
	} {
		if e := r.Insert(c.i, c.l...); e != api.OK || r.Text(0) != c.want || r.Text(3) != c.wantHigh {
			t.Fatalf("Insert(%d, %v): %d, %q, %q", c.i, c.l, e, r.Text(0), r.Text(3))
		}
	}
}

func TestP42InsertRefused(t *testing.T) {
	r := fresh(t, four())
	l := of("abc", "013")
	r.Insert(0, l...)
	good, label, surrogate := api.Elem{Rune: 'x'}, api.Elem{Rune: 'x', Label: 4}, api.Elem{Rune: 0xd800}
	for _, c := range []struct {
		i    int
		l    []api.Elem
		want api.Errno
	}{
		{-1, nil, api.ErrArg},
		{4, nil, api.ErrArg},
		{math.MinInt, []api.Elem{good}, api.ErrArg},
		{math.MaxInt, []api.Elem{good}, api.ErrArg},
		{4, []api.Elem{label}, api.ErrArg},
		{0, []api.Elem{label}, api.ErrLabel},
		{0, []api.Elem{{Label: -1}}, api.ErrLabel},
		{0, []api.Elem{{Label: math.MaxInt}}, api.ErrLabel},
		{0, []api.Elem{surrogate}, api.ErrText},
		{0, []api.Elem{{Rune: 0xdfff}}, api.ErrText},
		{0, []api.Elem{{Rune: 0x110000}}, api.ErrText},
		{0, []api.Elem{{Rune: math.MaxInt32}}, api.ErrText},
		{0, []api.Elem{{Rune: -1}}, api.ErrText},
		{0, []api.Elem{good, label, surrogate}, api.ErrLabel},
		{0, []api.Elem{good, surrogate, label}, api.ErrText},
		{0, []api.Elem{{Rune: 0xd800, Label: 4}}, api.ErrLabel},
	} {
		if e := r.Insert(c.i, c.l...); e != c.want {
			t.Errorf("Insert(%d, %v): %d", c.i, c.l, e)
		}
	}
	holds(t, r, model{four(), l})
}

func TestP42Span(t *testing.T) {
	r := fresh(t, four())
	many := make([]api.Elem, api.MaxSpan+1)
	many[api.MaxSpan] = api.Elem{Label: 9}
	if e := r.Insert(0, many...); e != api.ErrArg || r.Len() != 0 {
		t.Fatal(e, r.Len())
	}
	if e := r.Insert(0, many[:api.MaxSpan-1]...); e != api.OK {
		t.Fatal(e)
	}
	if e := r.Insert(5, make([]api.Elem, 2)...); e != api.ErrArg {
		t.Fatal(e)
	}
	if e := r.Insert(5, api.Elem{ID: 7, Label: 3}); e != api.OK || r.Len() != api.MaxSpan {
		t.Fatal(e, r.Len())
	}
	if e := r.Insert(5, api.Elem{}); e != api.ErrArg {
		t.Fatal(e)
	}
	if e := r.Insert(api.MaxSpan); e != api.OK {
		t.Fatal(e)
	}
	if i, e := r.Index(0, 5); i != 6 || e != api.OK {
		t.Fatal(i, e)
	}
	sound(t, r)
	if l, e := r.Remove(0, api.MaxSpan); len(l) != api.MaxSpan || l[5].ID != 7 || e != api.OK || r.Len() != 0 {
		t.Fatal(len(l), e)
	}
	sound(t, r)
}

func TestP42Remove(t *testing.T) {
	all := of("abcdef", "012301")
	for i := 0; i <= len(all); i++ {
		for n := 0; n <= len(all)-i; n++ {
			r := fresh(t, four())
			r.Insert(0, all...)
			l, e := r.Remove(i, n)
			if e != api.OK || !slices.Equal(l, all[i:i+n]) {
				t.Fatalf("Remove(%d, %d): %v, %d", i, n, l, e)
			}
			holds(t, r, model{four(), slices.Concat(all[:i], all[i+n:])})
		}
	}
}

func TestP42Relabel(t *testing.T) {
	all := of("abcdef", "012301")
	for i := 0; i <= len(all); i++ {
		for n := 0; n <= len(all)-i; n++ {
			r := fresh(t, four())
			r.Insert(0, all...)
			want := slices.Clone(all)
			for k := range n {
				want[i+k].Label = 2
			}
			if e := r.Relabel(i, n, 2); e != api.OK {
				t.Fatalf("Relabel(%d, %d): %d", i, n, e)
			}
			holds(t, r, model{four(), want})
		}
	}
}

func TestP42StretchRefused(t *testing.T) {
	r := fresh(t, four())
	all := of("abc", "013")
	r.Insert(0, all...)
	for _, c := range []struct{ i, n int }{
		{-1, 0}, {-1, 2}, {0, -1}, {0, 4}, {1, 3}, {3, 1}, {4, 0}, {4, -1}, {3, math.MaxInt}, {math.MaxInt, 1},
		{math.MinInt, math.MinInt}, {math.MaxInt, math.MaxInt}, {2, math.MinInt},
	} {
		if l, e := r.Remove(c.i, c.n); len(l) != 0 || e != api.ErrArg {
			t.Errorf("Remove(%d, %d): %v, %d", c.i, c.n, l, e)
		}
		for _, label := range []int{0, 4} {
			if e := r.Relabel(c.i, c.n, label); e != api.ErrArg {
				t.Errorf("Relabel(%d, %d, %d): %d", c.i, c.n, label, e)
			}
		}
	}
	for _, label := range []int{math.MinInt, -1, 4, 32, math.MaxInt} {
		if e := r.Relabel(0, 3, label); e != api.ErrLabel {
			t.Errorf("Relabel to %d: %d", label, e)
		}
		if e := r.Relabel(0, 0, label); e != api.ErrLabel {
			t.Errorf("Relabel of none to %d: %d", label, e)
		}
	}
	holds(t, r, model{four(), all})
}

func TestP43Example(t *testing.T) {
	p := api.Policy{Labels: []api.Label{{}, {Level: 1}}, Quotas: make([]api.Quota, 2), Entries: []api.Entry{{Secret: "s"}}}
	r := fresh(t, p)
	r.Insert(0, of("aBc", "010")...)
	place, e := r.Place(0, 1)
	index, f := r.Index(0, 1)
	view, g := r.View(0, 2)
	if place != 1 || index != 2 || view != 1 || e != api.OK || f != api.OK || g != api.OK || r.Text(1) != "aBc" || r.Text(0) != "ac" {
		t.Fatal(place, index, view, e, f, g, r.Text(1), r.Text(0))
	}
}

func TestP43Refused(t *testing.T) {
	r := fresh(t, four())
	r.Insert(0, of("aBcD", "0103")...)
	calls := map[string]func(int, int) (int, api.Errno){"Index": r.Index, "Place": r.Place, "View": r.View}
	most := map[string]int{"Index": 1, "Place": 2, "View": 4}
	for name, call := range calls {
		for _, view := range []int{math.MinInt, -1, 4, 31, 32, math.MaxInt} {
			for _, at := range []int{math.MinInt, -1, 0, 1, 9} {
				if k, e := call(view, at); k != 0 || e != api.ErrLabel {
					t.Errorf("%s(%d, %d): %d, %d", name, view, at, k, e)
				}
			}
		}
		for _, at := range []int{math.MinInt, -1, most[name] + 1, math.MaxInt} {
			if k, e := call(0, at); k != 0 || e != api.ErrArg {
				t.Errorf("%s(0, %d): %d, %d", name, at, k, e)
			}
		}
		if _, e := call(0, most[name]); e != api.OK {
			t.Errorf("%s(0, %d): %d", name, most[name], e)
		}
	}
	empty := fresh(t, four())
	if _, e := empty.Index(0, 0); e != api.ErrArg {
		t.Error("Index of an empty one", e)
	}
}

func TestP43Clone(t *testing.T) {
	r := fresh(t, four())
	c := r.Clone()
	holds(t, c, model{p: four()})
	var all []api.Elem
	for i := range 1000 {
		all = append(all, api.Elem{ID: i, Rune: rune('a' + i%26), Label: i % 4})
	}
	r.Insert(0, all...)
	if c.Len() != 0 {
		t.Fatal("an empty clone grew")
	}
	c = r.Clone()
	sound(t, c)
	c.Remove(10, 900)
	c.Relabel(0, 20, 3)
	c.Insert(5, of("xyz", "012")...)
	holds(t, r, model{four(), all})
	d := r.Clone()
	r.Remove(0, 1000)
	r.Insert(0, of("xyz", "012")...)
	holds(t, d, model{four(), all})
}

func TestP43NotMade(t *testing.T) {
	for _, r := range []*Rope{nil, {}} {
		if r.Len() != 0 || r.Count(0) != 0 || r.Size(0) != 0 || r.Text(0) != "" || len(r.Elems()) != 0 || len(r.Seen(0)) != 0 || r.Clone() != nil {
			t.Error("a rope that New did not make tells something")
		}
		if e, ok := r.At(0); ok || e != (api.Elem{}) {
			t.Error("At", e, ok)
		}
		for _, i := range []int{-1, 0, 1} {
			for _, label := range []int{-1, 0, 32} {
				if e := r.Insert(i, api.Elem{Label: label, Rune: -1}); e != api.ErrNil {
					t.Error("Insert", e)
				}
				if l, e := r.Remove(i, 0); len(l) != 0 || e != api.ErrNil {
					t.Error("Remove", l, e)
				}
				if e := r.Relabel(i, 0, label); e != api.ErrNil {
					t.Error("Relabel", e)
				}
				for _, call := range []func(int, int) (int, api.Errno){r.Index, r.Place, r.View} {
					if k, e := call(label, i); k != 0 || e != api.ErrNil {
						t.Error("a place", k, e)
					}
				}
			}
		}
	}
}

// doSomething does one thing to a rope and to the model.
func doSomething(t *testing.T, rnd *rand.Rand, r *Rope, m *model, most int) {
	t.Helper()
	i := rnd.Intn(len(m.l) + 1)
	switch k := rnd.Intn(6); {
	case k < 3 && len(m.l) < most:
		var l []api.Elem
		for range rnd.Intn([]int{2, 8, 300}[k]) + 1 {
			l = append(l, api.Elem{ID: rnd.Int(), Rune: rune('a' + rnd.Intn(26)), Label: rnd.Intn(len(m.p.Labels))})
		}
		if e := r.Insert(i, l...); e != api.OK {
			t.Fatal(e)
		}
		m.l = slices.Insert(slices.Clone(m.l), i, l...)
	case k < 5:
		n := min(len(m.l)-i, rnd.Intn([]int{3, 3, 30, 2, 500}[k]))
		l, e := r.Remove(i, n)
		if e != api.OK || !slices.Equal(l, m.l[i:i+n]) {
			t.Fatal(e)
		}
		m.l = slices.Concat(m.l[:i], m.l[i+n:])
	default:
		n := min(len(m.l)-i, rnd.Intn(200))
		label := rnd.Intn(len(m.p.Labels))
		if e := r.Relabel(i, n, label); e != api.OK {
			t.Fatal(e)
		}
		m.l = slices.Clone(m.l)
		for j := range n {
			m.l[i+j].Label = label
		}
	}
}

func TestP41ToP43Many(t *testing.T) {
	rnd := rand.New(rand.NewSource(4))
	for _, p := range []api.Policy{four(), wide()} {
		r, m := fresh(t, p), model{p: p}
		for step := range 3000 {
			doSomething(t, rnd, r, &m, 1500)
			sound(t, r)
			if step%50 == 0 {
				holds(t, r, m)
			}
		}
		holds(t, r, m)
	}
}

func TestP44Sight(t *testing.T) {
	rnd := rand.New(rand.NewSource(44))
	r := fresh(t, four())
	for i := range 400 {
		r.Insert(rnd.Intn(r.Len()+1), api.Elem{ID: i, Rune: rune('a' + i%26), Label: i % 4})
	}
	low, size, list := r.Text(1), r.Size(1), r.Seen(1)
	for range 300 {
		i := rnd.Intn(r.Len())
		e, _ := r.At(i)
		switch rnd.Intn(3) {
		case 0:
			r.Insert(i, of("XY", "23")...)
		case 1:
			if e.Label >= 2 {
				r.Remove(i, 1)
			}
		case 2:
			if e.Label >= 2 {
				r.Relabel(i, 1, 5-e.Label)
			}
		}
		if r.Text(1) != low || r.Size(1) != size || !slices.Equal(r.Seen(1), list) {
			t.Fatal("what is not seen shows")
		}
		at := rnd.Intn(size)
		if i, _ := r.Index(1, at); i >= r.Len() {
			t.Fatal(i)
		} else if e, _ := r.At(i); e != list[at] {
			t.Fatalf("the %d-th one that is seen: %v, was %v", at, e, list[at])
		}
	}
}

func TestP45Left(t *testing.T) {
	rnd := rand.New(rand.NewSource(45))
	for range 400 {
		r := fresh(t, four())
		for i := range 1 + rnd.Intn(12) {
			r.Insert(rnd.Intn(r.Len()+1), api.Elem{ID: 1 + i, Rune: 'x', Label: rnd.Intn(4)})
		}
		label := rnd.Intn(4)
		at := rnd.Intn(r.Size(label) + 1)
		behind := 0 // the number of what it is put behind
		if at > 0 {
			behind = r.Seen(label)[at-1].ID
		}
		place, e := r.Place(label, at)
		if e != api.OK || r.Insert(place, api.Elem{ID: 99, Rune: 'N', Label: label}) != api.OK {
			t.Fatal(place, e)
		}
		for _, view := range lattice.Viewers(four(), label) {
			ids := []int{0}
			for _, e := range r.Seen(view) {
				ids = append(ids, e.ID)
			}
			if k := slices.Index(ids, 99); ids[k-1] != behind {
				t.Fatalf("at %d, put behind %d: %v", view, behind, ids)
			}
		}
	}
}

func TestP46Turned(t *testing.T) {
	rnd := rand.New(rand.NewSource(46))
	r := fresh(t, wide())
	for i := range 700 {
		r.Insert(rnd.Intn(r.Len()+1), api.Elem{ID: i, Rune: 'x', Label: rnd.Intn(32)})
	}
	for view := range 32 {
		for at := range r.Size(view) {
			i, e := r.Index(view, at)
			k, f := r.View(view, i)
			if k != at || e != api.OK || f != api.OK {
				t.Fatalf("at %d the %d-th one: %d, and back %d", view, at, i, k)
			}
		}
	}
}

func TestP47Counts(t *testing.T) {
	rnd := rand.New(rand.NewSource(47))
	p := wide()
	r, m := fresh(t, p), model{p: p}
	for range 200 {
		doSomething(t, rnd, r, &m, 2000)
		sum := 0
		for view := range 32 {
			sum += r.Count(view)
			size := 0
			for _, label := range lattice.Seen(p, view) {
				size += r.Count(label)
			}
			if r.Size(view) != size {
				t.Fatalf("at %d are seen %d, want %d", view, r.Size(view), size)
			}
		}
		if sum != r.Len() {
			t.Fatalf("%d in all, want %d", sum, r.Len())
		}
	}
}

func TestP48Refused(t *testing.T) {
	rnd := rand.New(rand.NewSource(48))
	r, m := fresh(t, four()), model{p: four()}
	for range 200 {
		doSomething(t, rnd, r, &m, 400)
		n := r.Len()
		r.Insert(n+1, of("x", "0")...)
		r.Insert(rnd.Intn(n+1), of("xyz", "004")...)
		r.Insert(rnd.Intn(n+1), api.Elem{Rune: 'x'}, api.Elem{Rune: 0xdabc})
		r.Remove(rnd.Intn(n+1), n+1)
		r.Relabel(0, n+1, 0)
		r.Relabel(0, n, 4)
		holds(t, r, m)
	}
}

// Whoever goes through all code points may stop at any.
func TestP41EachStops(t *testing.T) {
	r := fresh(t, four())
	r.Insert(0, make([]api.Elem, 300)...)
	for stop := 1; stop <= 300; stop++ {
		n := 0
		for range r.each {
			if n++; n == stop {
				break
			}
		}
		if n != stop {
			t.Fatalf("%d, want %d", n, stop)
		}
	}
}

// What is handed in is neither changed nor kept, and what is answered is new memory, spare room too.
func TestMemory(t *testing.T) {
	p := four()
	r := fresh(t, p)
	p.Labels[0], p.Labels[3] = p.Labels[3], p.Labels[0]
	spare := of("abcdefgh", "01230123")
	if r.Insert(0, spare[:4]...); !slices.Equal(spare, of("abcdefgh", "01230123")) {
		t.Fatal("an argument was changed")
	}
	spare[0].Rune = 'z'
	holds(t, r, model{four(), of("abcd", "0123")})
	for _, l := range [][]api.Elem{r.Elems(), r.Seen(3), r.Seen(0)} {
		scribble(l)
	}
	holds(t, r, model{four(), of("abcd", "0123")})
	l, _ := r.Remove(1, 2)
	scribble(l)
	holds(t, r, model{four(), slices.Concat(of("abcd", "0123")[:1], of("abcd", "0123")[3:])})
}

func scribble(l []api.Elem) {
	l = l[:cap(l)]
	for i := range l {
		l[i] = api.Elem{ID: -1, Rune: '#', Label: 1}
	}
}

// A tree that does not lean: many things done at many places, of many code points, in little time.
func TestNotSlow(t *testing.T) {
	r := fresh(t, wide())
	begin := time.Now()
	r.Insert(0, make([]api.Elem, api.MaxSpan/2)...)
	for i := range 100000 {
		r.Insert((i*7919)%(r.Len()+1), api.Elem{ID: i, Rune: 'x', Label: i % 32})
		at, _ := r.Place(31, r.Size(31)/2)
		r.View(3, at)
		if i%2 == 0 {
			r.Remove((i*104729)%r.Len(), 1)
		}
	}
	if d := time.Since(begin); d > 20*time.Second {
		t.Fatal(d)
	}
	sound(t, r)
}
