package world

import (
	"sealskin/api"
	"sealskin/server"
)

// timed is whoever knows of time.
type timed interface {
	Tick() api.Errno
}

// Do does an event: why it came to nothing.
func (w *World) Do(e api.Event) api.Errno {
	if !w.made() {
		return api.ErrNil
	}
	w.begin()
	if !w.can(e) {
		return api.ErrStep
	}
	bad := w.happen(e)
	w.flush()
	return bad
}

// begin is that there is a new event, also if it can't be: what a client shows behind that must not hang on whether others' events stood ahead of it.
func (w *World) begin() {
	for i := range w.places {
		w.places[i].got = nil
	}
}

// can tells whether there is such an event, and its client, if it has one.
func (w *World) can(e api.Event) bool {
	switch e.Kind {
	case api.ETick, api.ECrash, api.ECheck:
		return true
	}
	return api.ELogin <= e.Kind && e.Kind <= api.ERedo && w.placeOf(e.Client) != nil
}

func (w *World) happen(e api.Event) api.Errno {
	switch e.Kind {
	case api.ETick:
		return w.pass()
	case api.ECrash:
		return w.crash()
	case api.ECheck:
		return w.server.Check()
	}
	p := w.placeOf(e.Client)
	switch e.Kind {
	case api.EUp:
		return w.bring(p, e)
	case api.ETorn:
		return w.tear(p, e)
	}
	return p.happen(e)
}

// flush puts on its way what all have to send.
func (w *World) flush() {
	for i := range w.places {
		p := &w.places[i]
		p.push(toServer, p.client.Out())
		p.push(toClient, w.server.Out(i))
	}
}

// all is whoever knows of time, the server first.
func (w *World) all() []timed {
	l := []timed{w.server}
	for _, p := range w.places {
		l = append(l, p.client)
	}
	return l
}

// pass lets time pass for all: the first error is told.
func (w *World) pass() api.Errno {
	first := api.OK
	for _, x := range w.all() {
		if bad := x.Tick(); first == api.OK {
			first = bad
		}
	}
	return first
}

// bring lets a frame come to the server.
func (w *World) bring(p *place, e api.Event) api.Errno {
	b, ok := p.pull(toServer, e.At)
	if !ok {
		return api.ErrStep
	}
	return w.server.Take(e.Client, b)
}

// crash lets the power go, which may be gone, and come back: what the server knew is no more, but for what lies on the disk.
func (w *World) crash() api.Errno {
	w.disk.Crash()
	w.disk.Start()
	w.disk.Disarm()
	s, bad := server.Open(w.disk, w.policy)
	w.server = s
	return bad
}

// tear lets the power go in the midst of what the server writes when a frame comes. That the server could not go on is no error of the event.
func (w *World) tear(p *place, e api.Event) api.Errno {
	if b, ok := p.pull(toServer, e.At); ok {
		w.disk.Arm(max(e.N, 1))
		w.server.Take(e.Client, b)
	}
	return w.crash()
}
