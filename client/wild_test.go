package client

import (
	"math"
	"math/rand"
	"testing"

	"sealskin/api"
	"sealskin/edit"
	"sealskin/frame"
)

// anyMessage is a message that may be, but that no server need say.
func anyMessage(r *rand.Rand, c *Client) api.Msg {
	size := length(c.Base())
	at := r.Intn(size + 2)
	e, _ := edit.Replace(size, min(at, size), 0, []string{"", "x", "yz"}[r.Intn(3)])
	if n := min(2, size); r.Intn(3) == 0 {
		e, _ = edit.Replace(size, r.Intn(size-n+1), n, "w")
	}
	seq, rev := c.last+r.Intn(3), c.rev+1
	if r.Intn(40) == 0 {
		rev += r.Intn(3) - 1
	}
	switch r.Intn(8) {
	case 0:
		return api.Msg{Kind: api.MHello, Rev: rev, Seq: r.Intn(5)}
	case 1:
		return refuses(seq, api.Errno(r.Intn(1001)))
	case 2:
		return peer(r.Intn(8), rev-r.Intn(2), at)
	case 3:
		return []api.Msg{{Kind: api.MBeat}, {Kind: api.MLogin, Rev: rev}, {Kind: api.MCursor, At: at}, {Kind: api.MBye, Err: api.ErrSeats}}[r.Intn(4)]
	case 4:
		if c.isWaiting() {
			return (&host{c: c}).commits()
		}
	}
	return api.Msg{Kind: api.MStep, Rev: rev, Who: r.Intn(3), Seq: seq, Edit: e}
}

// anyCall is something that a client is asked, with numbers that may be far off.
func anyCall(r *rand.Rand, c *Client) {
	number := func() int {
		return []int{-1, 0, 1, 2, r.Intn(10), length(c.View()), math.MinInt, math.MaxInt}[r.Intn(8)]
	}
	switch r.Intn(9) {
	case 0:
		c.Login("s")
	case 1:
		if r.Intn(5) == 0 {
			c.Logout()
		}
	case 2, 3:
		c.Edit(r.Intn(length(c.View())+1), 0, "é"[:2*r.Intn(2)]+"t")
	case 4:
		c.Edit(number(), number(), []string{"", "t", "\xff"}[r.Intn(3)])
	case 5:
		c.Undo()
	case 6:
		c.Redo()
	case 7:
		c.Down(number(), number(), number())
	case 8:
		c.Move(number())
	}
}

// Whatever a server says, and whatever a client is asked: no call panics, cursors are places of the view, and the history is of it.
func TestP204Wild(t *testing.T) {
	steps := 0
	for seed := range int64(400) {
		r := rand.New(rand.NewSource(seed))
		c := fresh(t)
		var h *host
		for range 200 {
			if r.Intn(2) == 0 {
				anyCall(r, c)
			}
			state, conn := c.State()
			switch {
			case state == api.Off && r.Intn(2) == 0, conn == 0:
				c.Login("s")
				h = nil
			case h == nil || h.end.Conn() != conn:
				h = greets(t, c)
				h.hears()
			default:
				b, bad := frame.Put(anyMessage(r, c))
				if bad == api.OK && h.end.Send(b) == api.OK {
					for _, f := range h.end.Out() {
						c.Take(h.wrap(f))
					}
					h.end.Take(api.Frame{Conn: conn, Ack: 1 << 40})
				}
				c.Tick()
			}
			if !isSound(c) {
				t.Fatalf("%d: %s", seed, shows(c))
			}
			steps += c.Rev()
		}
	}
	if steps < 1000 {
		t.Error("too little came", steps)
	}
}

func isSound(c *Client) bool {
	size := length(c.View())
	for _, p := range c.Peers() {
		if p.At < 0 || p.At > size {
			return false
		}
	}
	want := length(c.Base())
	if c.onWay.Kind == api.MEdit {
		_, want, _ = edit.Size(c.onWay.Edit)
	}
	return c.Cursor() >= 0 && c.Cursor() <= size && edit.Check(c.buffer, want) == api.OK && c.history.Size() == size
}
