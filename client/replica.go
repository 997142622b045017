package client

import (
	"slices"
	"unicode/utf8"

	"sealskin/api"
	"sealskin/core"
	"sealskin/edit"
	"sealskin/undo"
)

// replica is a client's copy of what it sees, and what it did to that.
type replica struct {
	base    string
	rev     int
	onWay   api.Msg    // as it was said, but for the revision; of kind 0: nothing
	buffer  []api.Part // of what an edit on its way makes of the base
	last    int        // the number of the last commit
	cursor  int
	moved   bool        // the server is to be told where the cursor is
	peers   map[int]int // others' cursors
	history *undo.History
}

func newReplica() replica {
	h, _ := undo.New(0)
	return replica{peers: map[int]int{}, history: h}
}

func length(s string) int { return utf8.RuneCountInString(s) }

func (r *replica) isWaiting() bool { return r.onWay.Kind != 0 }

func (r *replica) isPending() bool { return r.isWaiting() || edit.Changes(r.buffer) }

// isOwn tells whether a step or a refusal is of what is on its way.
func (r *replica) isOwn(seq int) bool { return r.isWaiting() && r.onWay.Seq == seq }

// view is the base with all that was done here.
func (r *replica) view() string {
	s := r.base
	if r.onWay.Kind == api.MEdit {
		s, _ = edit.Apply(r.onWay.Edit, s)
	}
	if edit.Changes(r.buffer) { // mostly it does not, and views are asked for often
		s, _ = edit.Apply(r.buffer, s)
	}
	return s
}

// settle lets the buffer change nothing of a text.
func (r *replica) settle(text string) { r.buffer, _ = edit.Same(length(text)) }

// add is the buffer with one more edit of the view; or why that can't be.
func (r *replica) add(e []api.Part) ([]api.Part, api.Errno) {
	all, bad := edit.Compose(r.buffer, e)
	if bad != api.OK {
		return nil, bad
	}
	if !core.Small(all) {
		return nil, api.ErrLong
	}
	return all, api.OK
}

// carry takes all cursors through an edit of the view. What was put just at the client's own one stands ahead of it, if it was put here.
func (r *replica) carry(e []api.Part, own bool) {
	r.cursor, _ = edit.Cursor(e, r.cursor, own)
	for who, at := range r.peers {
		r.peers[who], _ = edit.Cursor(e, at, false)
	}
}

// fits tells whether a step can be the next one; own is that it is what is on its way.
func (r *replica) fits(m api.Msg, own bool) bool {
	switch {
	case m.Rev != r.rev+1 || edit.Check(m.Edit, length(r.base)) != api.OK:
		return false
	case !own:
		return true
	case r.onWay.Kind == api.MDown:
		return !edit.Changes(m.Edit)
	}
	return slices.Equal(m.Edit, r.onWay.Edit)
}

// advance lets the base be what a step makes of it.
func (r *replica) advance(m api.Msg) {
	r.base, _ = edit.Apply(m.Edit, r.base)
	r.rev = m.Rev
}

// confirm is that what is on its way was committed: the view stays as it is.
func (r *replica) confirm(m api.Msg) {
	r.advance(m)
	r.last, r.onWay = m.Seq, api.Msg{}
}

// follow is that others did something: all that was done here is brought up behind it, and it behind that.
func (r *replica) follow(m api.Msg) {
	e := m.Edit
	if r.onWay.Kind == api.MEdit {
		r.onWay.Edit, e, _ = edit.Transform(r.onWay.Edit, e)
	}
	r.buffer, e, _ = edit.Transform(r.buffer, e)
	r.advance(m)
	r.history.Theirs(e)
	r.carry(e, false)
}

// giveUp is that what is on its way was refused. What was done behind an edit leans on it, and goes with it.
func (r *replica) giveUp() {
	kind := r.onWay.Kind
	r.onWay = api.Msg{}
	if kind != api.MEdit {
		return
	}
	end := length(r.base)
	r.settle(r.base)
	r.history.Clear(end)
	r.cursor = min(r.cursor, end)
	for who, at := range r.peers {
		r.peers[who] = min(at, end)
	}
}

// point lets another client's cursor be at a place of the base, as the view has it.
func (r *replica) point(m api.Msg) {
	if m.Rev != r.rev || m.At > length(r.base) {
		return
	}
	at := m.At
	if r.onWay.Kind == api.MEdit {
		at, _ = edit.Cursor(r.onWay.Edit, at, false)
	}
	r.peers[m.Who], _ = edit.Cursor(r.buffer, at, false)
}
