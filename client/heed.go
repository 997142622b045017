package client

import (
	"sealskin/api"
)

// heed does what a message says to a client that does what it does.
func (c *Client) heed(m api.Msg) {
	switch {
	case m.Kind == api.MHello && c.state == api.Asking:
		c.enter(m.Seq)
	case m.Kind == api.MBye:
		c.fall(m.Err)
	case c.state == api.On:
		c.heedIn(m)
	}
}

// enter is that the client is let in, with the number of its last commit. What is on its way is asked for again, unless the server has it: its step comes then.
func (c *Client) enter(last int) {
	c.state, c.moved = api.On, true
	switch {
	case !c.isWaiting():
		c.last = last
	case c.onWay.Seq > last:
		c.ask()
	}
}

// fall is that the client is out, and why; unless it was.
func (c *Client) fall(why api.Errno) {
	if c.state == api.Off {
		return
	}
	c.state = api.Off
	c.tell(0, why)
}

func (c *Client) tell(seq int, why api.Errno) {
	c.told = append(c.told, api.Told{Seq: seq, Err: why})
}

func (c *Client) heedIn(m api.Msg) {
	switch m.Kind {
	case api.MStep:
		c.step(m)
	case api.MRefuse:
		if c.isOwn(m.Seq) {
			c.tell(m.Seq, m.Err)
			c.giveUp()
		}
	case api.MPeer:
		c.point(m)
	}
}

// step takes the next step. Behind one that can't be nothing fits any more: the client must come in anew.
func (c *Client) step(m api.Msg) {
	own := m.Who == c.who && c.isOwn(m.Seq)
	switch {
	case !c.fits(m, own):
		c.fall(api.ErrGap)
		c.drop()
	case own:
		c.confirm(m)
		c.tell(m.Seq, api.OK)
	default:
		c.follow(m)
	}
}
