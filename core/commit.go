package core

import (
	"strings"

	"sealskin/api"
	"sealskin/edit"
)

const perCommit = 1024 // numbers of code points, of which an edit puts far fewer

// change is a part of an edit that puts something, or drops one code point: ahead of what stands at that place of the whole text, or just that.
type change struct {
	place int
	part  api.Part
}

// Apply commits a record.
func (c *Core) Apply(r api.Record) api.Errno {
	if !c.made() {
		return api.ErrNil
	}
	if !c.isNext(r) {
		return api.ErrJournal
	}
	c.commits++
	if r.Kind == api.REdit {
		c.commitEdit(r)
	} else {
		c.commitDown(r)
	}
	c.ops[c.labelOf(r.Who)]++
	c.last[r.Who] = r.Seq
	return api.OK
}

// isNext tells whether a record is one that Edit or Down would answer now.
func (c *Core) isNext(r api.Record) bool {
	if !c.isClient(r.Who) {
		return false
	}
	rev := c.Rev(c.labelOf(r.Who))
	bad := api.ErrJournal
	switch {
	case r.Kind == api.REdit && r.At == 0 && r.N == 0 && r.Target == 0:
		_, bad = c.Edit(r.Who, r.Seq, rev, r.Edit)
	case r.Kind == api.RDown && len(r.Edit) == 0:
		_, bad = c.Down(r.Who, r.Seq, rev, r.At, r.N, r.Target)
	}
	return bad == api.OK
}

func (c *Core) commitEdit(r api.Record) {
	label := c.labelOf(r.Who)
	l := c.changes(label, r.Edit)
	told := map[int][]api.Part{}
	for _, view := range c.viewers(label) {
		told[view] = c.asSeen(view, l)
	}
	c.alter(label, l)
	c.tell(r, told)
}

// changes is what an edit of what is seen at a label does to the whole text, by rising places.
func (c *Core) changes(label int, e []api.Part) []change {
	var l []change
	at := 0
	for _, p := range e {
		switch p.Kind {
		case api.Put:
			place, _ := c.text.Place(label, at)
			l = append(l, change{place, p})
		case api.Drop:
			for i := range p.N {
				place, _ := c.find(label, at+i)
				l = append(l, change{place, api.Part{Kind: api.Drop, N: 1}})
			}
		}
		if p.Kind != api.Put {
			at += p.N
		}
	}
	return l
}

// asSeen is changes of the whole text as an edit of what is seen at a label, at which all that they put and drop must be seen. Parts of no code points do not fit, and so edit.Norm leaves them out.
func (c *Core) asSeen(view int, l []change) []api.Part {
	var e []api.Part
	at := 0
	for _, x := range l {
		to, _ := c.text.View(view, x.place)
		e = append(e, keep(to-at), x.part)
		at = to
		if x.part.Kind == api.Drop {
			at++
		}
	}
	return edit.Norm(append(e, keep(c.text.Size(view)-at))...)
}

func keep(n int) api.Part { return api.Part{Kind: api.Keep, N: n} }

// alter does changes to the whole text; what is put has a label. Each moves the places of those behind it.
func (c *Core) alter(label int, l []change) {
	id, shift := perCommit*c.commits, 0
	for _, x := range l {
		if x.part.Kind == api.Drop {
			c.text.Remove(x.place+shift, 1)
			shift--
			continue
		}
		var put []api.Elem
		for _, r := range x.part.Text {
			put = append(put, api.Elem{ID: id, Rune: r, Label: label})
			id++
		}
		c.text.Insert(x.place+shift, put...)
		shift += len(put)
	}
}

// tell puts a step behind those of each label that is told of a commit. Its number shows only where the client does.
func (c *Core) tell(r api.Record, told map[int][]api.Part) {
	for view, e := range told {
		s := api.Step{Edit: e, Who: r.Who}
		if c.sees(view, c.labelOf(r.Who)) {
			s.Seq = r.Seq
		}
		c.steps[view] = append(c.steps[view], s)
	}
}

func (c *Core) commitDown(r api.Record) {
	own := c.labelOf(r.Who)
	l := c.stretch(own, r.At, r.N)
	told := map[int][]api.Part{}
	for _, view := range c.viewers(r.Target) {
		if c.sees(view, own) {
			told[view] = c.asSeen(view, nil)
		} else {
			told[view] = c.asSeen(view, l)
		}
	}
	c.note(r, l)
	for _, x := range l {
		c.text.Relabel(x.place, 1, r.Target)
	}
	c.tell(r, told)
}

// stretch is n code points that are seen at a label, as they come to those who did not see them.
func (c *Core) stretch(label, at, n int) []change {
	var l []change
	for i := range n {
		place, x := c.find(label, at+i)
		l = append(l, change{place, api.Part{Kind: api.Put, N: 1, Text: string(x.Rune)}})
	}
	return l
}

// note puts what is let down behind all that was, and into the log.
func (c *Core) note(r api.Record, l []change) {
	var b strings.Builder
	for _, x := range l {
		b.WriteString(x.part.Text)
	}
	at, _ := c.text.View(r.Target, l[0].place)
	a := api.Audit{Who: r.Who, Target: r.Target, At: at, Text: b.String(), Commit: c.commits}
	c.lowered = append(c.lowered, a)
	c.log.Add(Entry(a))
}
