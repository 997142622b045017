package world

import (
	"slices"

	"sealskin/api"
	"sealskin/client"
)

// place is a client's place in the world: the link between it and the server is its own.
type place struct {
	link
	client *client.Client
	got    []byte // the frame that came to it in the last event
}

// happen does an event that is the client's, or its link's, alone.
func (p *place) happen(e api.Event) api.Errno {
	switch e.Kind {
	case api.ELogin:
		return p.login(e.Text)
	case api.EEdit:
		return p.client.Edit(e.At, e.N, e.Text)
	case api.EDown:
		return p.client.Down(e.At, e.N, e.Target)
	case api.ECursor:
		return p.client.Move(e.At)
	case api.EBye:
		return p.client.Logout()
	case api.EUndo:
		return p.client.Undo()
	case api.ERedo:
		return p.client.Redo()
	case api.EDeliver:
		return p.deliver(e.At)
	case api.ELose:
		return p.lose(e.At, e.N)
	case api.EDouble:
		return p.double(e.At, e.N)
	}
	return api.ErrStep
}

// login begins a connection by a secret, or by the client's own one.
func (p *place) login(secret string) api.Errno {
	if secret == "" {
		secret = p.client.Secret()
	}
	return p.client.Login(secret)
}

// deliver lets a frame come to the client.
func (p *place) deliver(k int) api.Errno {
	b, ok := p.pull(toClient, k)
	if !ok {
		return api.ErrStep
	}
	p.got = b
	return p.client.Take(b)
}

// shot is what the client shows.
func (p *place) shot(who int) api.Shot {
	state, _ := p.client.State()
	return api.Shot{
		Client: who,
		View:   p.client.View(),
		Rev:    p.client.Rev(),
		State:  state,
		Cursor: p.client.Cursor(),
		Peers:  p.client.Peers(),
		Told:   p.client.Told(),
		Got:    slices.Clone(p.got),
	}
}
