package client

import (
	"fmt"
	"slices"
	"strings"
	"testing"

	"sealskin/api"
	"sealskin/channel"
	"sealskin/edit"
	"sealskin/frame"
)

// pair is a policy of one label with two clients.
func pair() api.Policy {
	q := api.Quota{Chars: 4096, Ops: 4096, Seats: 8}
	return api.Policy{Labels: []api.Label{{}}, Quotas: []api.Quota{q}, Entries: []api.Entry{{Secret: "s"}, {Secret: "t"}}}
}

func fresh(t *testing.T) *Client {
	t.Helper()
	c, bad := New(pair(), 0)
	if c == nil || bad != api.OK {
		t.Fatal(c, bad)
	}
	return c
}

// host is the server's end of a client's connection, driven by hand.
type host struct {
	t   *testing.T
	c   *Client
	end *channel.Channel
	key []byte
}

// greets is the end of the connection that a client has begun.
func greets(t *testing.T, c *Client) *host {
	t.Helper()
	_, conn := c.State()
	end, bad := channel.New(conn)
	if bad != api.OK {
		t.Fatal(bad)
	}
	return &host{t, c, end, frame.Key("s", 0, conn)}
}

// lets is that of a client that logs in, and is let in; it has said where its cursor is.
func lets(t *testing.T, c *Client, last int) *host {
	t.Helper()
	does(t, c.Login("s"))
	h := greets(t, c)
	h.hears()
	h.says(api.Msg{Kind: api.MHello, Rev: c.Rev(), Seq: last})
	return h
}

// inside is a client that is in and shows a text, at revision 1, and all of that was acknowledged.
func inside(t *testing.T, text string) (*Client, *host) {
	t.Helper()
	c := fresh(t)
	h := lets(t, c, 0)
	h.says(h.step(1, 1, 0, 0, text))
	h.hears()
	h.says()
	if c.View() != text || c.Pending() {
		t.Fatal(c.View())
	}
	return c, h
}

// hears is what the client says now.
func (h *host) hears() (l []api.Msg) {
	h.t.Helper()
	for _, b := range h.c.Out() {
		f, bad := frame.Unwrap(h.key, true, b)
		if bad != api.OK {
			h.t.Fatal(bad)
		}
		bodies, bad := h.end.Take(f)
		if bad != api.OK {
			h.t.Fatal(bad)
		}
		for _, x := range bodies {
			m, bad := frame.Get(x)
			if bad != api.OK {
				h.t.Fatal(bad)
			}
			l = append(l, m)
		}
	}
	return l
}

func (h *host) wrap(f api.Frame) []byte {
	h.t.Helper()
	b, bad := frame.Wrap(h.key, false, f)
	if bad != api.OK {
		h.t.Fatal(bad)
	}
	return b
}

// says brings messages to the client; without any an acknowledgement, if one is owed.
func (h *host) says(l ...api.Msg) {
	h.t.Helper()
	for _, m := range l {
		b, bad := frame.Put(m)
		if bad != api.OK {
			h.t.Fatal(m, bad)
		}
		h.sends(b)
	}
	if len(l) == 0 {
		h.brings()
	}
}

func (h *host) sends(body []byte) {
	h.t.Helper()
	if bad := h.end.Send(body); bad != api.OK {
		h.t.Fatal(bad)
	}
	h.brings()
}

func (h *host) brings() {
	h.t.Helper()
	for _, f := range h.end.Out() {
		if bad := h.c.Take(h.wrap(f)); bad != api.OK {
			h.t.Fatal(bad)
		}
	}
	h.end.Take(api.Frame{Conn: h.end.Conn(), Ack: 1 << 40}) // nothing that the server says is lost
}

// step is the next step: of the client's base, by somebody, with a number; k code points from at on become a text.
func (h *host) step(who, seq, at, k int, text string) api.Msg {
	h.t.Helper()
	e, bad := edit.Replace(length(h.c.Base()), at, k, text)
	if bad != api.OK {
		h.t.Fatal(bad)
	}
	return api.Msg{Kind: api.MStep, Rev: h.c.Rev() + 1, Who: who, Seq: seq, Edit: e}
}

// commits is the step of what is on its way.
func (h *host) commits() api.Msg {
	w := h.c.onWay
	m := api.Msg{Kind: api.MStep, Rev: h.c.Rev() + 1, Who: h.c.who, Seq: w.Seq, Edit: w.Edit}
	if w.Kind == api.MDown {
		m.Edit, _ = edit.Same(length(h.c.Base()))
	}
	return m
}

func refuses(seq int, why api.Errno) api.Msg { return api.Msg{Kind: api.MRefuse, Seq: seq, Err: why} }

func peer(who, rev, at int) api.Msg { return api.Msg{Kind: api.MPeer, Who: who, Rev: rev, At: at} }

// does wants several calls to be OK.
func does(t *testing.T, l ...api.Errno) {
	t.Helper()
	for i, bad := range l {
		if bad != api.OK {
			t.Errorf("call %d: %d", i, bad)
		}
	}
}

func fails(t *testing.T, what string, got, want api.Errno) {
	t.Helper()
	if got != want {
		t.Errorf("%s: %d, not %d", what, got, want)
	}
}

// shows is what a client tells of itself.
func shows(c *Client) string {
	state, conn := c.State()
	s := fmt.Sprintf("%q %q %d; %d %d; %v %d;", c.View(), c.Base(), c.Rev(), state, conn, c.Pending(), c.Cursor())
	return s + fmt.Sprint(c.Peers(), c.Told())
}

func isView(t *testing.T, c *Client, view, base string, cursor int) {
	t.Helper()
	if c.View() != view || c.Base() != base || c.Cursor() != cursor {
		t.Errorf("view %q, base %q, cursor %d; not %q, %q, %d", c.View(), c.Base(), c.Cursor(), view, base, cursor)
	}
}

func isState(t *testing.T, c *Client, state, conn int) {
	t.Helper()
	if s, n := c.State(); s != state || n != conn {
		t.Errorf("state %d of connection %d; not %d, %d", s, n, state, conn)
	}
}

// isTold wants what was told, as Seq and Err of each.
func isTold(t *testing.T, c *Client, want ...int) {
	t.Helper()
	var got []int
	for _, x := range c.Told() {
		got = append(got, x.Seq, int(x.Err))
	}
	if !slices.Equal(got, want) {
		t.Errorf("told %v, not %v", got, want)
	}
}

// isPeers wants others' cursors, as Who and At of each.
func isPeers(t *testing.T, c *Client, want ...int) {
	t.Helper()
	var got []int
	for _, x := range c.Peers() {
		got = append(got, x.Who, x.At)
	}
	if !slices.Equal(got, want) {
		t.Errorf("peers %v, not %v", got, want)
	}
}

// text is messages in short.
func text(l []api.Msg) string {
	var out []string
	for _, m := range l {
		out = append(out, short(m))
	}
	return strings.Join(out, ", ")
}

func short(m api.Msg) string {
	switch m.Kind {
	case api.MLogin:
		return fmt.Sprintf("login %d", m.Rev)
	case api.MEdit:
		return fmt.Sprintf("edit %d of %d: %s", m.Seq, m.Rev, parts(m.Edit))
	case api.MDown:
		return fmt.Sprintf("down %d of %d: %d %d to %d", m.Seq, m.Rev, m.At, m.N, m.Target)
	case api.MCursor:
		return fmt.Sprintf("cursor %d.%d", m.Rev, m.At)
	case api.MBeat:
		return "beat"
	case api.MBye:
		return fmt.Sprintf("bye %d", m.Err)
	}
	return fmt.Sprintf("%+v", m)
}

// parts is an edit in short: what is kept as a number, what is dropped with a minus, what is put as itself.
func parts(e []api.Part) string {
	var out []string
	for _, p := range e {
		switch p.Kind {
		case api.Keep:
			out = append(out, fmt.Sprint(p.N))
		case api.Drop:
			out = append(out, fmt.Sprint(-p.N))
		case api.Put:
			out = append(out, p.Text)
		}
	}
	return strings.Join(out, " ")
}

func saysThat(t *testing.T, what string, l []api.Msg, want string) {
	t.Helper()
	if got := text(l); got != want {
		t.Errorf("%s: %q, not %q", what, got, want)
	}
}

func tick(t *testing.T, c *Client, n int) {
	t.Helper()
	for range n {
		fails(t, "tick", c.Tick(), api.OK)
	}
}
