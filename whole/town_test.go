// Package whole has no code, but tests: of what desk, server and client promise together, whatever happens between them.
package whole

import (
	"fmt"
	"math/rand"
	"testing"

	"sealskin/api"
	"sealskin/client"
	"sealskin/disk"
	"sealskin/server"
)

// Labels of the policy of all towns: high and side see low, top sees all.
const (
	low = iota
	high
	side
	top
)

// house is that policy. Clients 0 and 1 are low, 2 high, 3 side, 4 top; 2 and 4 may let down.
func house() api.Policy {
	q := api.Quota{Chars: 4096, Ops: 4096, Seats: 8}
	return api.Policy{
		Labels: []api.Label{{}, {Level: 1, Comps: 1}, {Level: 1, Comps: 2}, {Level: 2, Comps: 3}},
		Quotas: []api.Quota{q, q, q, q},
		Entries: []api.Entry{
			{Label: low, Secret: "a"}, {Label: low, Secret: "b"}, {Label: high, Secret: "c", Down: true}, {Label: side, Secret: "d"}, {Label: top, Secret: "e", Down: true},
		},
	}
}

// Kinds of what happens in a town.
const (
	logsIn = iota
	triesIn
	edits
	lowers
	moves
	goes
	undoes
	redoes
	goesUp
	comesDown
	carries // all that is on its way, both ways
	isLost
	isDoubled
	isTorn
	passes // this and those behind it are nobody's
	crashes
	checks
	kinds
)

// act is something that happens. Its numbers are drawn ahead, so that one without others is the same script.
type act struct {
	kind, who, a, b, target int
	text                    string
}

// resident is a client, and what is on its way to the server, and from it.
type resident struct {
	*client.Client
	up, down [][]byte
}

// town is a server with its disk, and clients at links that lose.
type town struct {
	t   *testing.T
	p   api.Policy
	d   *disk.Disk
	s   *server.Server
	all []resident
}

func newTown(t *testing.T, p api.Policy) *town {
	t.Helper()
	d, bad := disk.New(api.MaxRoom)
	if bad != api.OK {
		t.Fatal(bad)
	}
	w := &town{t: t, p: p, d: d}
	w.open()
	for who := range p.Entries {
		c, bad := client.New(p, who)
		if bad != api.OK {
			t.Fatal(bad)
		}
		w.all = append(w.all, resident{Client: c})
	}
	return w
}

func (w *town) open() {
	w.t.Helper()
	s, bad := server.Open(w.d, w.p)
	if bad != api.OK {
		w.t.Fatal(bad)
	}
	w.s = s
}

func (w *town) do(x act) {
	w.t.Helper()
	if x.kind < passes {
		w.doFor(&w.all[x.who], x)
	}
	switch x.kind {
	case passes:
		w.s.Tick()
		for _, r := range w.all {
			r.Tick()
		}
	case crashes:
		w.crash()
	case checks:
		w.s.Check()
	}
	w.flush()
}

// flush brings what everybody has to send on its way. Links that are long lose.
func (w *town) flush() {
	for who := range w.all {
		r := &w.all[who]
		r.up = append(r.up, r.Out()...)
		r.up = r.up[:min(len(r.up), 20)]
		r.down = append(r.down, w.s.Out(who)...)
		r.down = r.down[:min(len(r.down), 20)]
	}
}

// stretch is a place and a length, drawn at random, as they fit what a client shows.
func (x act) stretch(r *resident) (at, n int) {
	size := len([]rune(r.View()))
	at = x.a % (size + 1)
	return at, min(x.b, size-at)
}

func (w *town) doFor(r *resident, x act) {
	w.t.Helper()
	at, n := x.stretch(r)
	switch x.kind {
	case logsIn:
		if state, _ := r.State(); state == api.Off || x.a%8 == 0 {
			r.Login(r.Secret())
		}
	case triesIn:
		r.Login("wrong")
	case edits:
		r.Edit(at, n, x.text)
	case lowers:
		r.Down(w.own(x), 1+x.b, x.target)
	case moves:
		r.Move(at)
	case goes:
		r.Logout()
	case undoes:
		r.Undo()
	case redoes:
		r.Redo()
	case goesUp, isTorn:
		if b := take(&r.up, x.a); b != nil {
			w.toServer(x, b)
		} else if x.kind == isTorn {
			w.crash()
		}
	case comesDown:
		if b := take(&r.down, x.a); b != nil {
			r.Take(b)
		}
	case carries:
		w.carry(x.who)
	case isLost, isDoubled:
		side := &r.up
		if x.a%2 == 1 {
			side = &r.down
		}
		b := take(side, x.a/2)
		if x.kind == isDoubled && b != nil {
			*side = append(*side, b, b)
		}
	}
}

// own is a place of what a client may let down, if there is one.
func (w *town) own(x act) int {
	label := w.p.Entries[x.who].Label
	var l []int
	for i, e := range w.s.Core().Seen(label) {
		if e.Label == label {
			l = append(l, i)
		}
	}
	if len(l) == 0 {
		return 0
	}
	return l[x.a%len(l)]
}

func (w *town) carry(who int) {
	r := &w.all[who]
	for len(r.up)+len(r.down) > 0 {
		for b := take(&r.up, 0); b != nil; b = take(&r.up, 0) {
			w.s.Take(who, b)
		}
		for b := take(&r.down, 0); b != nil; b = take(&r.down, 0) {
			r.Take(b)
		}
		w.flush()
	}
}

func (w *town) toServer(x act, b []byte) {
	if x.kind == goesUp {
		w.s.Take(x.who, b)
		return
	}
	w.d.Arm(1 + x.b)
	w.s.Take(x.who, b)
	w.crash()
}

func (w *town) crash() {
	w.t.Helper()
	w.d.Crash()
	w.d.Start()
	w.d.Disarm()
	w.open()
}

// take takes a frame off a link: mostly the first one.
func take(l *[][]byte, n int) []byte {
	if len(*l) == 0 {
		return nil
	}
	i := 0
	if n%4 == 3 {
		i = n / 4 % len(*l)
	}
	b := (*l)[i]
	*l = append((*l)[:i:i], (*l)[i+1:]...)
	return b
}

// often is how often each kind happens, of 200.
var often = [kinds]int{logsIn: 16, triesIn: 1, edits: 34, lowers: 8, moves: 6, goes: 1, undoes: 5, redoes: 3, goesUp: 30, comesDown: 30, carries: 36, isLost: 4, isDoubled: 5, isTorn: 2, passes: 17, crashes: 1, checks: 1}

func someAct(r *rand.Rand, p api.Policy) act {
	n := r.Intn(200)
	kind := 0
	for n >= often[kind] {
		n -= often[kind]
		kind++
	}
	x := act{kind: kind, who: r.Intn(len(p.Entries)), a: r.Intn(1000), b: max(r.Intn(7)-4, 0), target: r.Intn(len(p.Labels))}
	if kind == isTorn {
		x.b = r.Intn(260)
	}
	for range 1 + r.Intn(3) {
		x.text += string(rune('a' + r.Intn(26)))
	}
	return x
}

// script is what happens by a seed: all log in, then n things, whatever they are.
func script(seed int64, p api.Policy, n int) (l []act) {
	r := rand.New(rand.NewSource(seed))
	for who := range p.Entries {
		l = append(l, act{kind: logsIn, who: who}, act{kind: goesUp, who: who}, act{kind: comesDown, who: who})
	}
	for range n {
		l = append(l, someAct(r, p))
	}
	return l
}

// shows is all that a client shows and is told.
func (w *town) shows(who int) string {
	r := w.all[who]
	state, conn := r.State()
	return fmt.Sprint(r.View(), r.Base(), r.Rev(), state, conn, r.Pending(), r.Cursor(), r.Peers(), r.Told())
}
