// Package whole has no code, but tests: of what all layers promise together, whatever happens in a world.
package whole

import (
	"math/rand"
	"strings"
	"testing"

	"sealskin/api"
	"sealskin/lattice"
	"sealskin/world"
)

// Labels of the policy of most worlds: high and side see low, top sees all.
const (
	low = iota
	high
	side
	top
)

// house is that policy. Clients 0 and 1 are low, 2 high, 3 side, 4 top; 2 and 4 may let down.
func house() api.Policy {
	q := api.Quota{Chars: 4096, Ops: 4096, Seats: 8}
	return api.Policy{
		Labels: []api.Label{{}, {Level: 1, Comps: 1}, {Level: 1, Comps: 2}, {Level: 2, Comps: 3}},
		Quotas: []api.Quota{q, q, q, q},
		Entries: []api.Entry{
			{Label: low, Secret: "a"}, {Label: low, Secret: "b"}, {Label: high, Secret: "c", Down: true}, {Label: side, Secret: "d"}, {Label: top, Secret: "e", Down: true},
		},
	}
}

// somePolicy is one of few labels, some of which may have nearly nothing.
func somePolicy(r *rand.Rand) (p api.Policy) {
	pick := func(l ...int) int { return l[r.Intn(len(l))] }
	for i := range 1 + r.Intn(6) {
		p.Labels = append(p.Labels, api.Label{Level: i / 2, Comps: uint32(r.Intn(4)<<1 | i&1)})
		p.Quotas = append(p.Quotas, api.Quota{Chars: pick(0, 8, 40, 4096, 4096), Ops: pick(0, 4, 30, 4096, 4096), Seats: pick(0, 1, 2, 8, 8, 8)})
	}
	for range 1 + r.Intn(api.MaxClients) {
		p.Entries = append(p.Entries, api.Entry{Label: r.Intn(len(p.Labels)), Secret: string(rune('a' + r.Intn(26))), Down: r.Intn(4) > 0})
	}
	return p
}

func newWorld(t *testing.T, p api.Policy) *world.World {
	t.Helper()
	w, bad := world.New(p)
	if bad != api.OK {
		t.Fatal(bad)
	}
	return w
}

// maker makes scripts: each event is done in a world, so that most of those that come next can be.
type maker struct {
	*rand.Rand
	p   api.Policy
	w   *world.World
	who []int // whose events are made
	l   []api.Event
}

func newMaker(t *testing.T, r *rand.Rand, p api.Policy) *maker {
	t.Helper()
	m := &maker{Rand: r, p: p, w: newWorld(t, p)}
	for who := range p.Entries {
		m.who = append(m.who, who)
	}
	return m
}

func (m *maker) do(e api.Event) {
	m.w.Do(e)
	m.l = append(m.l, e)
}

// Kinds of what is made, beside those of events.
const (
	carries = api.ERedo + 1 + iota // all that is on its way, both ways
	goesWild
	sleeps // for many ticks
	floods // a way, until there is no room
	kinds
)

// often is how often each kind is made, of 200.
var often = [kinds]int{
	api.ELogin: 15, api.EEdit: 36, api.EDown: 12, api.ECursor: 8, api.EBye: 1, api.EUp: 28, api.EDeliver: 28, api.ELose: 4, api.EDouble: 4,
	api.ETick: 17, api.ECrash: 1, api.ETorn: 2, api.ECheck: 2, api.EUndo: 5, api.ERedo: 3, carries: 30, goesWild: 2, sleeps: 1, floods: 1,
}

// some makes something, whatever it is.
func (m *maker) some() {
	n, kind := m.Intn(200), 0
	for n >= often[kind] {
		n -= often[kind]
		kind++
	}
	who := m.who[m.Intn(len(m.who))]
	switch kind {
	case carries:
		m.carry(who)
	case goesWild:
		m.do(m.wild())
	case sleeps:
		for range 5 + m.Intn(30) {
			m.do(api.Event{Kind: api.ETick})
		}
	case floods:
		m.flood(who, m.Intn(2))
	case api.EDown:
		m.carry(who) // while something is pending nothing can be let down
		m.do(m.fitting(kind, who))
		m.carry(who)
	default:
		m.do(m.fitting(kind, who))
	}
}

// carry lets all come that is on its way, and what that brings forth.
func (m *maker) carry(who int) {
	for range 20 {
		up, down := m.w.Waiting(who)
		if up > 0 {
			m.do(api.Event{Kind: api.EUp, Client: who})
		}
		if down > 0 {
			m.do(api.Event{Kind: api.EDeliver, Client: who})
		}
		if up+down == 0 {
			return
		}
	}
}

// flood doubles what is on its way on a side, until there is no room, and once more.
func (m *maker) flood(who, side int) {
	if _, ok := m.w.Frame(who, side, 0); !ok {
		return
	}
	for k := range api.MaxLink {
		m.do(api.Event{Kind: api.EDouble, Client: who, At: side, N: k})
	}
}

// fitting is an event of a kind that can be, mostly.
func (m *maker) fitting(kind, who int) api.Event {
	e := api.Event{Kind: kind, Client: who}
	up, down := m.w.Waiting(who)
	size := len([]rune(m.w.Client(who).View()))
	switch kind {
	case api.ELogin:
		if _, open, _ := m.w.Server().State(who); open && m.Intn(8) > 0 {
			return api.Event{Kind: api.ECursor, Client: who, At: size / 2}
		}
		if m.Intn(10) == 0 {
			e.Text = "wrong"
		}
	case api.EEdit:
		e.At = m.Intn(size + 1)
		e.N = min(max(m.Intn(7)-4, 0), size-e.At)
		e.Text = m.letters(m.Intn(4))
	case api.EDown:
		e.At, e.N, e.Target = m.own(who), 1+m.Intn(3)/2, m.below(who)
	case api.ECursor:
		e.At = m.Intn(size + 1)
	case api.EUp:
		e.At = m.frame(up)
	case api.EDeliver:
		e.At = m.frame(down)
	case api.ELose, api.EDouble:
		e.At = m.Intn(2)
		e.N = m.frame([]int{up, down}[e.At])
	case api.ETorn:
		e.At, e.N = m.frame(up), m.Intn(260)
	case api.ETick, api.ECrash, api.ECheck:
		e.Client = m.Intn(9)
	}
	return e
}

func (m *maker) letters(n int) (s string) {
	for range n {
		s += string(rune('a' + m.Intn(26)))
	}
	return s
}

// frame is the place of one of n frames: mostly the first one.
func (m *maker) frame(n int) int {
	if n == 0 || m.Intn(4) > 0 {
		return 0
	}
	return m.Intn(n)
}

// own is a place of what a client may let down, if there is one.
func (m *maker) own(who int) int {
	label := m.p.Entries[who].Label
	var l []int
	for i, e := range m.w.Server().Core().Seen(label) {
		if e.Label == label {
			l = append(l, i)
		}
	}
	if len(l) == 0 {
		return 0
	}
	return l[m.Intn(len(l))]
}

// below is a label that a client may let something down to, mostly.
func (m *maker) below(who int) int {
	label := m.Intn(len(m.p.Labels))
	for range 3 {
		if label == m.p.Entries[who].Label || !lattice.Sees(m.p, m.p.Entries[who].Label, label) {
			label = m.Intn(len(m.p.Labels))
		}
	}
	return label
}

// wild is an event that hardly can be.
func (m *maker) wild() api.Event {
	number := func() int { return []int{-1 << 63, -1, 0, 1, 2, 63, 64, 1 << 40, 1<<63 - 1}[m.Intn(9)] }
	text := []string{"", "\xff", "\n", "é\U0001F600", strings.Repeat("x", api.MaxText+m.Intn(2))}[m.Intn(5)]
	who := m.who[m.Intn(len(m.who))]
	if m.Intn(3) == 0 {
		who = number()
	}
	if kind := m.Intn(20) - 2; kind != api.ECrash && kind != api.ETorn {
		return api.Event{Kind: kind, Client: who, At: number(), N: number(), Target: number(), Text: text}
	}
	return api.Event{Kind: number(), Client: who}
}

// begin lets all come in.
func (m *maker) begin() {
	for _, who := range m.who {
		m.do(api.Event{Kind: api.ELogin, Client: who})
		m.carry(who)
	}
}

// script is some events by a seed, after all came in.
func script(t *testing.T, seed int64, p api.Policy, n int) []api.Event {
	t.Helper()
	m := newMaker(t, rand.New(rand.NewSource(seed)), p)
	m.begin()
	for range n {
		m.some()
	}
	return m.l
}
