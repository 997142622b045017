package watch

import (
	"bytes"
	"fmt"
	"math/rand"
	"slices"
	"strconv"
	"strings"
	"testing"

	"sealskin/api"
	"sealskin/lattice"
	"sealskin/world"
)

// Labels of the policy of most tests: high and side see low, top sees all.
const (
	low = iota
	high
	side
	top
)

// house is that policy. Clients 0 and 3 are low, 1 is high, 2 side, 4 top; all but 0 may let down.
func house() api.Policy {
	q := api.Quota{Chars: 4096, Ops: 4096, Seats: 8}
	return api.Policy{
		Labels: []api.Label{{}, {Level: 1, Comps: 1}, {Level: 1, Comps: 2}, {Level: 2, Comps: 3}},
		Quotas: []api.Quota{q, q, q, q},
		Entries: []api.Entry{
			{Label: low, Secret: "a"}, {Label: high, Secret: "b", Down: true}, {Label: side, Secret: "c", Down: true}, {Label: low, Secret: "d", Down: true}, {Label: top, Secret: "e", Down: true},
		},
	}
}

// none is labels that there are not.
var none = []int{-1 << 63, -1, 4, 31, 32, 1<<63 - 1}

func TestP221Low(t *testing.T) {
	p := house()
	for label, want := range [][]int{{0, 3}, {0, 1, 3}, {0, 2, 3}, {0, 1, 2, 3, 4}} {
		if l := Low(p, label); !slices.Equal(l, want) {
			t.Errorf("at %d: %v, not %v", label, l, want)
		}
	}
	for _, label := range none {
		if l := Low(p, label); len(l) != 0 {
			t.Errorf("at %d: %v", label, l)
		}
	}
	if l := Low(api.Policy{}, 0); len(l) != 0 {
		t.Error(l)
	}
	made := api.Policy{Labels: []api.Label{{}, {Level: 1}}, Entries: []api.Entry{{Label: -1}, {Label: 2}, {Label: 1}, {Label: 0}, {Label: 1 << 62}}}
	if l := Low(made, 0); !slices.Equal(l, []int{3}) {
		t.Error(l)
	}
	if l := Low(made, 1); !slices.Equal(l, []int{2, 3}) {
		t.Error(l)
	}
}

func stays(t *testing.T, label int, e, want api.Event, ok bool) {
	t.Helper()
	if x, y := Stays(house(), label, e); x != want || y != ok {
		t.Errorf("at %d %+v: %+v, %v; not %+v, %v", label, e, x, y, want, ok)
	}
}

func TestP221Stays(t *testing.T) {
	for kind := -1; kind < 18; kind++ {
		for _, who := range []int{-1 << 63, -1, 0, 1, 2, 3, 4, 5, 8, 1<<63 - 1} {
			e := api.Event{Kind: kind, Client: who, At: 1, N: 2, Target: 3, Text: "text"}
			switch {
			case kind == api.ETick || kind == api.ECrash || kind == api.ECheck || who == 0 || who == 3 || who == 2:
				stays(t, side, e, e, true)
			case kind == api.ETorn && (who == 1 || who == 4):
				stays(t, side, e, api.Event{Kind: api.ECrash}, true)
			default:
				stays(t, side, e, api.Event{}, false)
			}
		}
	}
	for _, label := range none {
		stays(t, label, api.Event{Kind: api.ETick, Client: 4}, api.Event{Kind: api.ETick, Client: 4}, true)
		stays(t, label, api.Event{Kind: api.ETorn}, api.Event{Kind: api.ECrash}, true)
		stays(t, label, api.Event{Kind: api.EEdit}, api.Event{}, false)
	}
	if e, ok := Stays(api.Policy{}, 0, api.Event{Kind: api.ETorn}); e != (api.Event{}) || ok {
		t.Error(e, ok)
	}
}

func TestP221Purge(t *testing.T) {
	l := []api.Event{{Kind: api.ELogin}, {Kind: api.ELogin, Client: 1}, {Kind: api.ETick}, {Kind: api.ETorn, Client: 1, N: 5}}
	old := slices.Clone(l)
	want := []api.Event{{Kind: api.ELogin}, {Kind: api.ETick}, {Kind: api.ECrash}}
	got := Purge(house(), low, l)
	if !slices.Equal(got, want) || !slices.Equal(l, old) {
		t.Errorf("%+v, not %+v", got, want)
	}
	got[0].Kind = 99
	if !slices.Equal(l, old) {
		t.Error("it is the same memory")
	}
	if got := Purge(house(), high, l); !slices.Equal(got, l) {
		t.Errorf("%+v, not %+v", got, l)
	}
	if got := Purge(house(), low, nil); len(got) != 0 {
		t.Error(got)
	}
}

func TestP221Clean(t *testing.T) {
	for _, x := range []struct {
		label int
		e     api.Event
		want  bool
	}{
		{low, api.Event{Kind: api.EDown, Client: 1, Target: low}, false},
		{low, api.Event{Kind: api.EDown, Client: 4, Target: low}, false},
		{low, api.Event{Kind: api.EDown, Client: 4, Target: high}, true},
		{low, api.Event{Kind: api.EDown, Client: 0, Target: low}, true},
		{low, api.Event{Kind: api.EDown, Client: 3, Target: high}, true},
		{low, api.Event{Kind: api.EEdit, Client: 1, Target: low}, true},
		{low, api.Event{Kind: api.EDown, Client: 5, Target: low}, false},
		{low, api.Event{Kind: api.EDown, Client: -1, Target: low}, false},
		{low, api.Event{Kind: api.EDown, Client: 1, Target: -1}, true},
		{low, api.Event{Kind: api.EDown, Client: 1, Target: 4}, true},
		{high, api.Event{Kind: api.EDown, Client: 1, Target: low}, true},
		{high, api.Event{Kind: api.EDown, Client: 2, Target: low}, false},
		{high, api.Event{Kind: api.EDown, Client: 2, Target: high}, false},
		{high, api.Event{Kind: api.EDown, Client: 2, Target: side}, true},
		{high, api.Event{Kind: api.EDown, Client: 4, Target: high}, false},
		{top, api.Event{Kind: api.EDown, Client: 4, Target: low}, true},
		{top, api.Event{Kind: api.EDown, Client: 9, Target: low}, false},
		{4, api.Event{Kind: api.EDown, Client: 4, Target: low}, true},
	} {
		if got := Clean(house(), x.label, []api.Event{{Kind: api.ETick}, x.e, {Kind: api.EUp}}); got != x.want {
			t.Errorf("at %d %+v: %v", x.label, x.e, got)
		}
	}
	if !Clean(house(), low, nil) || !Clean(api.Policy{}, 0, []api.Event{{Kind: api.EDown}}) {
		t.Error("nothing is not clean")
	}
}

// maker makes scripts in which all can be.
type maker struct {
	t *testing.T
	w *world.World
	l []api.Event
}

func newMaker(t *testing.T) *maker {
	t.Helper()
	w, bad := world.New(house())
	if bad != api.OK {
		t.Fatal(bad)
	}
	return &maker{t: t, w: w}
}

func (m *maker) do(l ...api.Event) {
	m.t.Helper()
	for _, e := range l {
		if bad := m.w.Do(e); bad != api.OK {
			m.t.Fatalf("%+v: %v", e, bad)
		}
		m.l = append(m.l, e)
	}
}

func (m *maker) carry(who int) {
	m.t.Helper()
	for range 100 {
		up, down := m.w.Waiting(who)
		if up > 0 {
			m.do(api.Event{Kind: api.EUp, Client: who})
		}
		if down > 0 {
			m.do(api.Event{Kind: api.EDeliver, Client: who})
		}
		if up+down == 0 {
			return
		}
	}
}

// all does something of a client, and lets all come.
func (m *maker) all(e api.Event) {
	m.t.Helper()
	m.do(e)
	for range 2 {
		for who := range house().Entries {
			m.carry(who)
		}
	}
}

// released is a script in which 1, 2 and 4 let something down.
func released(t *testing.T) *maker {
	t.Helper()
	m := newMaker(t)
	for who := range house().Entries {
		m.all(api.Event{Kind: api.ELogin, Client: who})
	}
	m.all(api.Event{Kind: api.EEdit, Text: "ab"})
	for _, who := range []int{1, 2, 4} {
		m.all(api.Event{Kind: api.EEdit, Client: who, At: 1, Text: strings.Repeat(strconv.Itoa(who), 3)})
	}
	m.all(api.Event{Kind: api.EDown, Client: 1, At: 2, N: 2, Target: low})
	m.all(api.Event{Kind: api.EDown, Client: 4, At: 1, N: 1, Target: side})
	m.do(api.Event{Kind: api.ETick}, api.Event{Kind: api.EDown, Client: 2, At: 2, N: 1, Target: low}, api.Event{Kind: api.ETick}, api.Event{Kind: api.ETorn, Client: 2, N: 1 << 20}, api.Event{Kind: api.ETick})
	return m
}

// byHand is what Observe and Releases are, by the chapter's words.
func byHand(t *testing.T, label int, l []api.Event) (shots [][]api.Shot, lets []api.Release) {
	t.Helper()
	p := house()
	w, bad := world.New(p)
	if bad != api.OK {
		t.Fatal(bad)
	}
	isLow := func(who int) bool { return slices.Contains(Low(p, label), who) }
	before := 0
	for _, e := range l {
		rev := w.Server().Core().Rev(label)
		w.Do(e)
		for ; rev < w.Server().Core().Rev(label); rev++ {
			if s, _ := w.Server().Core().Step(label, rev); !isLow(s.Who) {
				lets = append(lets, api.Release{Before: before, Who: s.Who, Edit: s.Edit})
			}
		}
		if _, ok := Stays(p, label, e); ok {
			before++
			var x []api.Shot
			for _, who := range Low(p, label) {
				x = append(x, w.Shot(who))
			}
			shots = append(shots, x)
		}
	}
	n := 0
	for _, a := range w.Server().Core().Audits() {
		if !isLow(a.Who) && lattice.Sees(p, label, a.Target) {
			lets[n].Target = a.Target
			n++
		}
	}
	return shots, lets
}

func TestP222ByHand(t *testing.T) {
	l := released(t).l
	for label := range house().Labels {
		shots, lets := byHand(t, label, l)
		a, bad := Observe(house(), label, l)
		if bad != api.OK || fmt.Sprintf("%+v", a) != fmt.Sprintf("%+v", shots) {
			t.Errorf("at %d other shots", label)
		}
		b, bad := Releases(house(), label, l)
		if bad != api.OK || fmt.Sprintf("%+v", b) != fmt.Sprintf("%+v", lets) {
			t.Errorf("at %d %+v, not %+v", label, b, lets)
		}
	}
}

// Behind each event that stays there is a shot of each low client, rising.
func TestP222Observe(t *testing.T) {
	m := newMaker(t)
	m.all(api.Event{Kind: api.ELogin})
	n := len(m.l)
	m.all(api.Event{Kind: api.ELogin, Client: 1})
	m.do(api.Event{Kind: api.EEdit, Text: "x"}, api.Event{Kind: api.EEdit, Client: 1, Text: "y"}, api.Event{Kind: api.EEdit, Client: 3, Text: "z"}, api.Event{Kind: api.ETorn, Client: 1}, api.Event{Kind: api.ETick})
	m.l = append(m.l, api.Event{Kind: 99}, api.Event{Kind: 99, Client: 1})
	l, bad := Observe(house(), low, m.l)
	if bad != api.OK || len(l) != n+5 {
		t.Fatal(len(l), n, bad)
	}
	for _, x := range l {
		if len(x) != 2 || x[0].Client != 0 || x[1].Client != 3 {
			t.Fatal(x)
		}
	}
	for i, want := range []string{"", "z", "z", "z", "z"} {
		if x := l[n+i]; x[0].View != "x" || x[1].View != want {
			t.Errorf("%d: %+v", i, x)
		}
	}
	if came := slices.ContainsFunc(l, func(x []api.Shot) bool { return x[0].Got != nil }); !came {
		t.Error("nothing came")
	}
}

func TestP222Nobody(t *testing.T) {
	if l, bad := Observe(api.Policy{}, 0, []api.Event{{Kind: api.ETick}}); l != nil || bad != api.ErrPolicy {
		t.Error(l, bad)
	}
	if l, bad := Releases(api.Policy{}, 0, []api.Event{{Kind: api.ETick}}); l != nil || bad != api.ErrPolicy {
		t.Error(l, bad)
	}
	for _, label := range none {
		l, bad := Observe(house(), label, []api.Event{{Kind: api.ELogin}, {Kind: api.ETick}, {Kind: api.ETorn}})
		if bad != api.OK || len(l) != 2 || len(l[0]) != 0 || len(l[1]) != 0 {
			t.Error(label, l, bad)
		}
		if l, bad := Releases(house(), label, released(t).l); len(l) != 0 || bad != api.OK {
			t.Error(label, l, bad)
		}
	}
	for label := range house().Labels {
		a, bad := Observe(house(), label, nil)
		if len(a) != 0 || bad != api.OK {
			t.Error(a, bad)
		}
		b, bad := Releases(house(), label, nil)
		if len(b) != 0 || bad != api.OK {
			t.Error(b, bad)
		}
	}
}

func TestP222Releases(t *testing.T) {
	l := released(t).l
	ahead := func(label, kind, who int) int { // how many events that stay stand ahead of that of a client
		i := slices.IndexFunc(l, func(e api.Event) bool { return e.Kind == kind && e.Client == who })
		return len(Purge(house(), label, l[:i]))
	}
	put := func(at int, text string, behind int) []api.Part {
		return []api.Part{{Kind: api.Keep, N: at}, {Kind: api.Put, N: len(text), Text: text}, {Kind: api.Keep, N: behind}}
	}
	for label, want := range [][]api.Release{
		{{Before: ahead(low, api.EDown, 1), Who: 1, Target: low, Edit: put(1, "11", 1)}, {Before: ahead(low, api.ETorn, 2), Who: 2, Target: low, Edit: put(1, "2", 3)}},
		{{Before: ahead(high, api.ETorn, 2), Who: 2, Target: low, Edit: put(1, "2", 4)}},
		{{Before: ahead(side, api.EDown, 1), Who: 1, Target: low, Edit: put(4, "11", 1)}, {Before: ahead(side, api.EDown, 4), Who: 4, Target: side, Edit: put(1, "4", 6)}},
		nil,
	} {
		got, bad := Releases(house(), label, l)
		if bad != api.OK || !slices.EqualFunc(got, want, func(x, y api.Release) bool { return fmt.Sprintf("%+v", x) == fmt.Sprintf("%+v", y) }) {
			t.Errorf("at %d: %+v, not %+v; %v", label, got, want, bad)
		}
	}
}

// What is let down may be the first that there is at a label.
func TestP222First(t *testing.T) {
	m := newMaker(t)
	m.all(api.Event{Kind: api.ELogin, Client: 1})
	m.all(api.Event{Kind: api.EEdit, Client: 1, Text: "x"})
	m.all(api.Event{Kind: api.EDown, Client: 1, N: 1})
	got, bad := Releases(house(), low, m.l)
	if bad != api.OK || fmt.Sprintf("%+v", got) != fmt.Sprintf("%+v", []api.Release{{Who: 1, Edit: []api.Part{{Kind: api.Put, N: 1, Text: "x"}}}}) {
		t.Errorf("%+v, %v", got, bad)
	}
}

func TestP223Until(t *testing.T) {
	x := api.Release{Before: 5, Who: 1, Target: 2, Edit: []api.Part{{Kind: api.Put, N: 1, Text: "a"}}}
	change := func(f func(r *api.Release)) api.Release {
		y := x
		y.Edit = slices.Clone(x.Edit)
		f(&y)
		return y
	}
	later := change(func(r *api.Release) { r.Before = 7 })
	bare, empty := x, x
	bare.Edit, empty.Edit = nil, []api.Part{}
	for i, c := range []struct {
		a, b       []api.Release
		most, want int
	}{
		{nil, nil, 9, 9},
		{nil, nil, -9, -9},
		{nil, []api.Release{}, 0, 0},
		{[]api.Release{x}, []api.Release{x}, 9, 9},
		{[]api.Release{x}, []api.Release{x}, 3, 3},
		{[]api.Release{bare}, []api.Release{empty}, 9, 9},
		{[]api.Release{x}, nil, 9, 5},
		{nil, []api.Release{x}, 9, 5},
		{[]api.Release{x}, nil, 3, 3},
		{[]api.Release{x}, []api.Release{later}, 9, 5},
		{[]api.Release{later}, []api.Release{x}, 9, 5},
		{[]api.Release{x, later}, []api.Release{x}, 9, 7},
		{[]api.Release{x}, []api.Release{x, later}, 9, 7},
		{[]api.Release{x, later}, []api.Release{x}, 6, 6},
		{[]api.Release{x, later, x}, []api.Release{x, later}, 9, 5},
		{[]api.Release{later, x}, nil, 9, 7},
		{nil, []api.Release{later, x}, 9, 7},
		{[]api.Release{x}, []api.Release{change(func(r *api.Release) { r.Who = 2 })}, 9, 5},
		{[]api.Release{x}, []api.Release{change(func(r *api.Release) { r.Target = 1 })}, 9, 5},
		{[]api.Release{x}, []api.Release{change(func(r *api.Release) { r.Edit[0].Text = "b" })}, 9, 5},
		{[]api.Release{x}, []api.Release{change(func(r *api.Release) { r.Edit = append(r.Edit, api.Part{Kind: api.Keep, N: 1}) })}, 9, 5},
		{[]api.Release{x}, []api.Release{bare}, 9, 5},
		{[]api.Release{{Before: -3}}, nil, 9, -3},
	} {
		if got := Until(c.a, c.b, c.most); got != c.want {
			t.Errorf("%d: %d, not %d", i, got, c.want)
		}
	}
}

// shot is one of which all is there.
func shot() api.Shot {
	return api.Shot{
		Client: 1, View: "aé", Rev: 2, State: 3, Cursor: 4,
		Peers: []api.Peer{{Who: 5, At: 6}, {Who: 7, At: 8}}, Told: []api.Told{{Seq: 9, Err: api.ErrRight}, {Seq: 10}}, Got: []byte{1, 2, 3},
	}
}

func TestP223Put(t *testing.T) {
	number := func(l ...int) (b []byte) {
		for _, n := range l {
			b = append(b, 0, 0, 0, 0, 0, 0, byte(n>>8), byte(n))
		}
		return b
	}
	want := slices.Concat(number(1, 2, 3, 4, 3), []byte("aé"), number(2, 5, 6, 7, 8, 2, 9, 153, 10, 0, 3), []byte{1, 2, 3})
	if b := Put(shot()); !bytes.Equal(b, want) {
		t.Errorf("%v, not %v", b, want)
	}
	if b := Put(api.Shot{}); !bytes.Equal(b, number(0, 0, 0, 0, 0, 0, 0, 0)) {
		t.Error(b)
	}
	if b := Put(api.Shot{Client: -1, Cursor: 300, View: "\xff", Peers: []api.Peer{{Who: -5, At: 300}}}); !bytes.Equal(b, slices.Concat(number(0, 0, 0, 300, 1), []byte{255}, number(1, 0, 300, 0, 0))) {
		t.Error(b)
	}
	s := shot()
	b := Put(s)
	b[len(b)-1] = 77
	if s.Got[2] != 3 {
		t.Error("it is the same memory")
	}
}

func TestP223Alike(t *testing.T) {
	same := []api.Shot{shot(), {}}
	for i, f := range []func(s *api.Shot){
		func(s *api.Shot) { s.Client++ }, func(s *api.Shot) { s.View += "a" }, func(s *api.Shot) { s.Rev++ }, func(s *api.Shot) { s.State++ }, func(s *api.Shot) { s.Cursor = -4 },
		func(s *api.Shot) { s.Peers[1].At++ }, func(s *api.Shot) { s.Peers = s.Peers[:1] }, func(s *api.Shot) { s.Told[0].Err = 0 }, func(s *api.Shot) { s.Told = nil },
		func(s *api.Shot) { s.Got[0]++ }, func(s *api.Shot) { s.Got = nil },
	} {
		x := shot()
		f(&x)
		if n := Alike([][]api.Shot{same, {shot()}}, [][]api.Shot{same, {x}}); n != 1 {
			t.Errorf("%d: %d", i, n)
		}
	}
	empty := api.Shot{Peers: []api.Peer{}, Told: []api.Told{}, Got: []byte{}}
	for i, c := range []struct {
		a, b [][]api.Shot
		want int
	}{
		{nil, nil, 0},
		{nil, [][]api.Shot{}, 0},
		{[][]api.Shot{same}, nil, 0},
		{[][]api.Shot{same, same}, [][]api.Shot{same}, 1},
		{[][]api.Shot{same}, [][]api.Shot{same, same, same}, 1},
		{[][]api.Shot{same, nil, same}, [][]api.Shot{same, {}, same}, 3},
		{[][]api.Shot{same, {}, same}, [][]api.Shot{same, same, same}, 1},
		{[][]api.Shot{{shot()}}, [][]api.Shot{same}, 0},
		{[][]api.Shot{{{}}}, [][]api.Shot{{empty}}, 1},
	} {
		if n := Alike(c.a, c.b); n != c.want {
			t.Errorf("%d: %d, not %d", i, n, c.want)
		}
		if n := Alike(c.b, c.a); n != c.want {
			t.Errorf("%d turned around: %d, not %d", i, n, c.want)
		}
	}
}

// Those that are alike are put alike, and what can be is put so only then.
func TestP223PutAlike(t *testing.T) {
	l, bad := Observe(house(), top, released(t).l)
	if bad != api.OK {
		t.Fatal(bad)
	}
	same := 0
	for i := range l {
		for j := max(0, i-3); j < i; j++ {
			for k := range l[i] {
				alike := Alike([][]api.Shot{{l[i][k]}}, [][]api.Shot{{l[j][k]}}) == 1
				if alike != bytes.Equal(Put(l[i][k]), Put(l[j][k])) {
					t.Fatalf("%+v and %+v", l[i][k], l[j][k])
				}
				if alike {
					same++
				}
			}
		}
	}
	if same == 0 {
		t.Error("none were alike")
	}
}

func somePolicy(r *rand.Rand) (p api.Policy) {
	for range 1 + r.Intn(8) {
		p.Labels = append(p.Labels, api.Label{Level: r.Intn(3), Comps: uint32(r.Intn(8))})
	}
	for range 1 + r.Intn(8) {
		p.Entries = append(p.Entries, api.Entry{Label: r.Intn(len(p.Labels))})
	}
	return p
}

func TestP224Purged(t *testing.T) {
	crashes := 0
	for seed := range int64(500) {
		r := rand.New(rand.NewSource(seed))
		p := somePolicy(r)
		var l []api.Event
		for range 60 {
			l = append(l, api.Event{Kind: r.Intn(18) - 1, Client: r.Intn(10) - 1, At: r.Intn(3), N: r.Intn(3), Target: r.Intn(9)})
		}
		label := r.Intn(len(p.Labels)+2) - 1
		once := Purge(p, label, l)
		if twice := Purge(p, label, once); !slices.Equal(once, twice) {
			t.Fatalf("%d: %+v, not %+v", seed, twice, once)
		}
		for _, e := range once {
			if x, ok := Stays(p, label, e); !ok || x != e {
				t.Fatalf("%d: %+v: %+v, %v", seed, e, x, ok)
			}
			if e == (api.Event{Kind: api.ECrash}) {
				crashes++
			}
		}
		for _, seen := range lattice.Seen(p, label) {
			for _, who := range Low(p, seen) {
				if !slices.Contains(Low(p, label), who) {
					t.Fatalf("%d: %d is low at %d, not at %d", seed, who, seen, label)
				}
			}
		}
	}
	if crashes == 0 {
		t.Error("nothing was torn")
	}
}
