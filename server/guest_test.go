package server

import (
	"fmt"
	"slices"
	"strings"
	"testing"

	"sealskin/api"
	"sealskin/channel"
	"sealskin/core"
	"sealskin/disk"
	"sealskin/edit"
	"sealskin/frame"
)

// Labels of the policy of most tests: high and side see low, top sees all.
const (
	low = iota
	high
	side
	top
)

// house is that policy. Clients 0 and 1 are low, 2 high, 3 side, 4 top; 2 and 4 may let down.
func house() api.Policy {
	q := api.Quota{Chars: 4096, Ops: 4096, Seats: 8}
	return api.Policy{
		Labels: []api.Label{{}, {Level: 1, Comps: 1}, {Level: 1, Comps: 2}, {Level: 2, Comps: 3}},
		Quotas: []api.Quota{q, q, q, q},
		Entries: []api.Entry{
			{Label: low, Secret: "a"}, {Label: low, Secret: "b"}, {Label: high, Secret: "c", Down: true}, {Label: side, Secret: "d"}, {Label: top, Secret: "e", Down: true},
		},
	}
}

func newDisk(t *testing.T) *disk.Disk {
	t.Helper()
	d, bad := disk.New(api.MaxRoom)
	if bad != api.OK {
		t.Fatal(bad)
	}
	return d
}

func open(t *testing.T, d *disk.Disk, p api.Policy) *Server {
	t.Helper()
	s, bad := Open(d, p)
	if s == nil || bad != api.OK {
		t.Fatal(s, bad)
	}
	return s
}

// guest is a client's end of a connection, driven by hand.
type guest struct {
	t   *testing.T
	s   *Server
	who int
	end *channel.Channel
	key []byte
}

func visit(t *testing.T, s *Server, who, conn int) *guest {
	t.Helper()
	end, bad := channel.New(conn)
	if bad != api.OK {
		t.Fatal(bad)
	}
	return &guest{t, s, who, end, frame.Key(s.policy.Entries[who].Secret, who, conn)}
}

// comes is a guest that is in, and has heard all.
func comes(t *testing.T, s *Server, who, conn int) *guest {
	t.Helper()
	g := visit(t, s, who, conn)
	g.says(api.Msg{Kind: api.MLogin, Rev: s.Core().Rev(s.labelOf(who))})
	if !s.isIn(who) {
		t.Fatalf("%d is not in", who)
	}
	return g
}

// put lets the guest's end have a message to send.
func (g *guest) put(l ...api.Msg) {
	g.t.Helper()
	for _, m := range l {
		b, bad := frame.Put(m)
		if bad != api.OK {
			g.t.Fatal(m, bad)
		}
		if bad := g.end.Send(b); bad != api.OK {
			g.t.Fatal(m, bad)
		}
	}
}

// frames is what goes to the server now.
func (g *guest) frames() (l [][]byte) {
	g.t.Helper()
	for _, f := range g.end.Out() {
		b, bad := frame.Wrap(g.key, true, f)
		if bad != api.OK {
			g.t.Fatal(bad)
		}
		l = append(l, b)
	}
	return l
}

// up brings all of that to the server.
func (g *guest) up() {
	g.t.Helper()
	for _, b := range g.frames() {
		if bad := g.s.Take(g.who, b); bad != api.OK {
			g.t.Fatal(bad)
		}
	}
}

// down brings what the server has for the guest, and is the messages that come of it.
func (g *guest) down() (l []api.Msg) {
	g.t.Helper()
	for _, b := range g.s.Out(g.who) {
		f, bad := frame.Unwrap(g.key, false, b)
		if bad != api.OK {
			g.t.Fatal(bad)
		}
		bodies, bad := g.end.Take(f)
		if bad != api.OK {
			g.t.Fatal(bad)
		}
		for _, x := range bodies {
			m, bad := frame.Get(x)
			if bad != api.OK {
				g.t.Fatal(bad)
			}
			l = append(l, m)
		}
	}
	return l
}

// hears is all that the server has for the guest, until nothing comes any more.
func (g *guest) hears() (l []api.Msg) {
	g.t.Helper()
	for range 1000 {
		more := g.down()
		g.up()
		l = append(l, more...)
		if len(more) == 0 {
			return l
		}
	}
	g.t.Fatal("there is no end")
	return nil
}

// says brings messages to the server, and is what comes back.
func (g *guest) says(m ...api.Msg) []api.Msg {
	g.t.Helper()
	g.put(m...)
	g.up()
	return g.hears()
}

// wants is an edit of the text at the guest's label as it is, as the commit behind its last one.
func (g *guest) wants(at, k int, text string) api.Msg {
	g.t.Helper()
	c, label := g.s.Core(), g.s.labelOf(g.who)
	e, bad := edit.Replace(c.Size(label), at, k, text)
	if bad != api.OK {
		g.t.Fatal(bad)
	}
	return api.Msg{Kind: api.MEdit, Seq: c.Last(g.who) + 1, Rev: c.Rev(label), Edit: e}
}

func (g *guest) lowers(at, n, target int) api.Msg {
	c := g.s.Core()
	return api.Msg{Kind: api.MDown, Seq: c.Last(g.who) + 1, Rev: c.Rev(g.s.labelOf(g.who)), At: at, N: n, Target: target}
}

func points(rev, at int) api.Msg { return api.Msg{Kind: api.MCursor, Rev: rev, At: at} }

// text is messages in short.
func text(l []api.Msg) string {
	var out []string
	for _, m := range l {
		out = append(out, short(m))
	}
	return strings.Join(out, ", ")
}

func short(m api.Msg) string {
	switch m.Kind {
	case api.MBeat:
		return "beat"
	case api.MBye:
		return fmt.Sprintf("bye %d", m.Err)
	case api.MHello:
		return fmt.Sprintf("hello %d %d", m.Rev, m.Seq)
	case api.MStep:
		return fmt.Sprintf("step %d of %d.%d", m.Rev, m.Who, m.Seq)
	case api.MRefuse:
		return fmt.Sprintf("refuse %d %d", m.Seq, m.Err)
	case api.MPeer:
		return fmt.Sprintf("peer %d at %d.%d", m.Who, m.Rev, m.At)
	}
	return fmt.Sprintf("%+v", m)
}

func hearsThat(t *testing.T, what string, l []api.Msg, want string) {
	t.Helper()
	if got := text(l); got != want {
		t.Errorf("%s: %q, not %q", what, got, want)
	}
}

// look is all that a server tells of itself, but for what it has for clients.
func look(s *Server) string {
	out := ""
	for who := -1; who <= len(s.policy.Entries); who++ {
		conn, open, told := s.State(who)
		out += fmt.Sprint(conn, open, told, s.Locked(who), s.Core().Last(who), ";")
	}
	return out + document(s.Core())
}

// document is all of a document: histories, texts, what was let down.
func document(c *core.Core) string {
	out := fmt.Sprint(c.Commits(), c.Elems(), c.Audits(), c.Root())
	for label := range c.Policy().Labels {
		out += fmt.Sprint(c.Text(label), history(c, label))
	}
	return out
}

func history(c *core.Core, label int) (l []api.Step) {
	for rev := range c.Rev(label) {
		step, _ := c.Step(label, rev)
		l = append(l, step)
	}
	return l
}

// isStep tells whether a message is just that step of a label's history.
func isStep(c *core.Core, label int, m api.Msg) bool {
	x, ok := c.Step(label, m.Rev-1)
	return ok && m.Kind == api.MStep && m.Who == x.Who && m.Seq == x.Seq && slices.Equal(m.Edit, x.Edit)
}
