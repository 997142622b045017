package core

import (
	"sealskin/api"
	"sealskin/edit"
)

// Small tells whether it may.
func Small(e []api.Part) bool {
	if _, _, bad := edit.Size(e); bad != api.OK {
		return false
	}
	places := 0
	for _, p := range e {
		if p.Kind == api.Put {
			places++
		}
	}
	puts, drops := edit.Weight(e)
	return places <= api.MaxPuts && puts <= api.MaxText && drops <= api.MaxDrop
}

// Edit is the record of a client's edit of the text at a revision; or why it is refused.
func (c *Core) Edit(who, seq, base int, e []api.Part) (api.Record, api.Errno) {
	if bad := c.checkTurn(who, seq, base); bad != api.OK {
		return api.Record{}, bad
	}
	label := c.labelOf(who)
	past := c.steps[label]
	if edit.Check(e, past.sizeAt(base, c.Size(label))) != api.OK || !Small(e) {
		return api.Record{}, api.ErrEdit
	}
	e, bad := past.bringUp(base, e)
	if bad == api.OK {
		bad = c.checkEdit(label, e)
	}
	if bad != api.OK {
		return api.Record{}, bad
	}
	return api.Record{Kind: api.REdit, Who: who, Seq: seq, Edit: e}, api.OK
}

// checkTurn is what speaks against a client's commit of that number, whatever it is: of what was seen at its label at a revision.
func (c *Core) checkTurn(who, seq, base int) api.Errno {
	switch {
	case !c.made():
		return api.ErrNil
	case !c.isClient(who):
		return api.ErrArg
	case seq != c.last[who]+1:
		return api.ErrGap
	case base < 0 || base > c.Rev(c.labelOf(who)):
		return api.ErrStale
	}
	return api.OK
}

// checkEdit is what speaks against an edit of what is seen at a label, by a client of it.
func (c *Core) checkEdit(label int, e []api.Part) api.Errno {
	at := 0
	for _, p := range e {
		if p.Kind == api.Drop && !c.owns(label, at, p.N) {
			return api.ErrWrite
		}
		if p.Kind != api.Put {
			at += p.N
		}
	}
	puts, drops := edit.Weight(e)
	chars, ops := c.Count(label)
	if !c.within(label, chars+puts-drops) || !c.moreOps(label, ops) {
		return api.ErrQuota
	}
	return api.OK
}

// owns tells whether n code points that are seen at a label are all of it.
func (c *Core) owns(label, at, n int) bool {
	for i := range n {
		if _, x := c.find(label, at+i); x.Label != label {
			return false
		}
	}
	return true
}

// find is the at-th code point that is seen at a label, and where it stands; there must be one.
func (c *Core) find(label, at int) (int, api.Elem) {
	i, _ := c.text.Index(label, at)
	x, _ := c.text.At(i)
	return i, x
}

// Down is the record of a stretch that a client lets down; or why it is refused.
func (c *Core) Down(who, seq, base, at, n, target int) (api.Record, api.Errno) {
	if bad := c.checkTurn(who, seq, base); bad != api.OK {
		return api.Record{}, bad
	}
	if base != c.Rev(c.labelOf(who)) {
		return api.Record{}, api.ErrStale
	}
	if bad := c.checkDown(who, at, n, target); bad != api.OK {
		return api.Record{}, bad
	}
	return api.Record{Kind: api.RDown, Who: who, Seq: seq, At: at, N: n, Target: target}, api.OK
}

// checkDown is what speaks against a client's letting down of a stretch of what it sees.
func (c *Core) checkDown(who, at, n, target int) api.Errno {
	if !c.mayLower(who, target) {
		return api.ErrRight
	}
	label := c.labelOf(who)
	if n < 1 || n > api.MaxDrop || at < 0 || at > c.Size(label)-n {
		return api.ErrArg
	}
	if !c.owns(label, at, n) {
		return api.ErrWrite
	}
	chars, _ := c.Count(target)
	_, ops := c.Count(label)
	if !c.within(target, chars+n) || !c.moreOps(label, ops) {
		return api.ErrQuota
	}
	return api.OK
}
