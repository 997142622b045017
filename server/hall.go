package server

import (
	"sealskin/api"
	"sealskin/desk"
)

// mark is where a client's cursor is: a place of what is seen at its label at a revision.
type mark struct {
	rev int
	at  int
}

// hall is who is in, by which connections, and where their cursors are.
type hall struct {
	desk  *desk.Desk
	lines [api.MaxClients]*line // nil: no connection began
	marks map[int]mark
}

func (h *hall) isIn(who int) bool {
	_, open := h.desk.State(who)
	return open
}

// enter is that a new connection of a client began.
func (h *hall) enter(who int, l *line) {
	h.desk.Begin(who, l.end.Conn())
	h.lines[who] = l
	delete(h.marks, who)
}

// leave is that a client says that it goes. Its connection stays: what it is told on it may still be acknowledged.
func (h *hall) leave(who int) {
	h.desk.Shut(who)
	delete(h.marks, who)
}

// pass lets time pass, and forgets whoever was silent for too long.
func (h *hall) pass() {
	for who, l := range h.lines {
		if l != nil {
			l.tick(h.isIn(who))
		}
	}
	for _, who := range h.desk.Tick() {
		h.lines[who] = nil
		delete(h.marks, who)
	}
}
