package world

import (
	"bytes"
	"fmt"
	"math/rand"
	"slices"
	"testing"

	"sealskin/api"
	"sealskin/client"
	"sealskin/disk"
	"sealskin/server"
)

// mirror is a world by the chapter's words, one behind the other.
type mirror struct {
	p    api.Policy
	d    *disk.Disk
	s    *server.Server
	c    []*client.Client
	ways [2][][][]byte // by side and client
	got  [][]byte
}

func newMirror(t *testing.T) *mirror {
	t.Helper()
	m := &mirror{p: house()}
	m.d, _ = disk.New(1 << 24)
	m.s, _ = server.Open(m.d, m.p)
	for who := range m.p.Entries {
		c, bad := client.New(m.p, who)
		if bad != api.OK {
			t.Fatal(bad)
		}
		m.c = append(m.c, c)
		m.ways[0], m.ways[1] = append(m.ways[0], nil), append(m.ways[1], nil)
	}
	return m
}

// take is a frame, which is no more there.
func (m *mirror) take(side, who, k int) []byte {
	l := m.ways[side][who]
	if k < 0 || k >= len(l) {
		return nil
	}
	m.ways[side][who] = append(slices.Clone(l[:k]), l[k+1:]...)
	return l[k]
}

func (m *mirror) crash() api.Errno {
	m.d.Crash()
	m.d.Start()
	m.d.Disarm()
	s, bad := server.Open(m.d, m.p)
	m.s = s
	return bad
}

func (m *mirror) do(e api.Event) api.Errno {
	m.got = make([][]byte, len(m.c))
	if e.Kind < 1 || e.Kind > 15 || (e.Client < 0 || e.Client >= len(m.c)) && e.Kind != 10 && e.Kind != 11 && e.Kind != 13 {
		return api.ErrStep
	}
	bad := m.act(e)
	for who, c := range m.c {
		m.ways[0][who] = append(m.ways[0][who], c.Out()...)
		m.ways[1][who] = append(m.ways[1][who], m.s.Out(who)...)
		for side := range 2 {
			m.ways[side][who] = m.ways[side][who][:min(len(m.ways[side][who]), 64)]
		}
	}
	return bad
}

func (m *mirror) act(e api.Event) api.Errno {
	if e.Kind == api.ETick {
		m.s.Tick()
		for _, c := range m.c {
			c.Tick()
		}
		return api.OK
	}
	if e.Kind == api.ECrash {
		return m.crash()
	}
	if e.Kind == api.ECheck {
		return m.s.Check()
	}
	who := e.Client
	c := m.c[who]
	switch e.Kind {
	case api.ELogin:
		if e.Text == "" {
			return c.Login(m.p.Entries[who].Secret)
		}
		return c.Login(e.Text)
	case api.EEdit:
		return c.Edit(e.At, e.N, e.Text)
	case api.EDown:
		return c.Down(e.At, e.N, e.Target)
	case api.ECursor:
		return c.Move(e.At)
	case api.EBye:
		return c.Logout()
	case api.EUndo:
		return c.Undo()
	case api.ERedo:
		return c.Redo()
	case api.EUp, api.EDeliver, api.ETorn:
		return m.comes(e)
	}
	return m.changes(e)
}

func (m *mirror) comes(e api.Event) api.Errno {
	side := 0
	if e.Kind == api.EDeliver {
		side = 1
	}
	b := m.take(side, e.Client, e.At)
	switch {
	case e.Kind == api.ETorn:
		if b != nil {
			m.d.Arm(max(1, e.N))
			m.s.Take(e.Client, b)
		}
		return m.crash()
	case b == nil:
		return api.ErrStep
	case side == 0:
		return m.s.Take(e.Client, b)
	}
	m.got[e.Client] = b
	return m.c[e.Client].Take(b)
}

func (m *mirror) changes(e api.Event) api.Errno {
	if e.At != 0 && e.At != 1 {
		return api.ErrStep
	}
	l := m.ways[e.At][e.Client]
	if e.N < 0 || e.N >= len(l) {
		return api.ErrStep
	}
	if e.Kind == api.ELose {
		m.take(e.At, e.Client, e.N)
		return api.OK
	}
	if len(l) == 64 {
		return api.ErrFull
	}
	m.ways[e.At][e.Client] = append(slices.Clone(l), l[e.N])
	return api.OK
}

// differs is what a world has otherwise than its mirror; nothing, if that is nothing.
func (m *mirror) differs(w *World) string {
	for who, c := range m.c {
		for side := range 2 {
			if !slices.EqualFunc(ways(w, who, side), m.ways[side][who], bytes.Equal) {
				return fmt.Sprintf("frames of side %d of %d", side, who)
			}
		}
		if a, b := w.Waiting(who); a != len(m.ways[0][who]) || b != len(m.ways[1][who]) {
			return fmt.Sprintf("how many frames of %d", who)
		}
		state, _ := c.State()
		want := api.Shot{Client: who, View: c.View(), Rev: c.Rev(), State: state, Cursor: c.Cursor(), Peers: c.Peers(), Told: c.Told(), Got: m.got[who]}
		if a, b := fmt.Sprintf("%+v", w.Shot(who)), fmt.Sprintf("%+v", want); a != b {
			return a + ", not " + b
		}
	}
	for file := range api.Files {
		a, x := w.Disk().Read(file)
		b, y := m.d.Read(file)
		if x != y || !bytes.Equal(a, b) {
			return fmt.Sprintf("file %d", file)
		}
	}
	return ""
}

// some is an event that often can be.
func some(r *rand.Rand) api.Event {
	pick := func(l ...int) int { return l[r.Intn(len(l))] }
	kind := pick(0, 1, 1, 2, 2, 2, 2, 3, 3, 4, 5, 6, 6, 6, 6, 6, 7, 7, 7, 7, 7, 8, 9, 9, 9, 10, 10, 10, 13, 14, 15, 16)
	if r.Intn(40) == 0 {
		kind = pick(11, 12, 12, 12)
	}
	e := api.Event{Kind: kind, Client: pick(0, 0, 0, 1, 1, 1, 2, 2, 2, 3, -1), At: pick(0, 0, 0, 0, 1, 2, 3, -1), N: pick(0, 0, 0, 1, 1, 2, 63), Target: pick(0, 0, 1, 2)}
	switch kind {
	case api.ELogin:
		e.Text = []string{"", "", "", "", "a", "wrong"}[r.Intn(6)]
	case api.EEdit:
		e.Text = []string{"", "x", "yz", "é"}[r.Intn(4)]
	case api.ETorn:
		e.N = r.Intn(250)
	}
	return e
}

// pair is a world and its mirror, in which the same is done.
type pair struct {
	t *testing.T
	*World
	m    *mirror
	done map[int]int // how often each kind was done
	full int         // how often a frame found no room
}

func (x *pair) do(e api.Event) {
	x.t.Helper()
	a, b := x.Do(e), x.m.do(e)
	if s := x.m.differs(x.World); a != b || s != "" {
		x.t.Fatalf("%+v: %d, not %d; %s", e, a, b, s)
	}
	if a == api.OK {
		x.done[e.Kind]++
	}
	if a == api.ErrFull && e.Kind == api.EDouble {
		x.full++
	}
}

// carry lets come what is on its way between a client and the server.
func (x *pair) carry(who int) {
	x.t.Helper()
	for range 10 {
		x.do(api.Event{Kind: api.EUp, Client: who})
		x.do(api.Event{Kind: api.EDeliver, Client: who})
	}
}

func TestP212Mirror(t *testing.T) {
	x := &pair{t: t, done: map[int]int{}}
	for seed := range int64(60) {
		r := rand.New(rand.NewSource(seed))
		x.World, x.m = newWorld(t), newMirror(t)
		for i := range 200 {
			x.do(some(r))
			if n, _ := x.Waiting(0); seed%10 == 0 && n > 0 && i > 100 {
				x.do(api.Event{Kind: api.EDouble}) // until there is no room
			} else if who := r.Intn(12); who < 3 {
				x.carry(who)
			}
		}
	}
	for kind := api.ELogin; kind <= api.ERedo; kind++ {
		if x.done[kind] == 0 {
			t.Errorf("no event of kind %d was done", kind)
		}
	}
	if x.full == 0 {
		t.Error("there was always room")
	}
}
