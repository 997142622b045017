package server

import (
	"errors"

	"sealskin/api"
	"sealskin/core"
	"sealskin/edit"
	"sealskin/journal"
)

// store is the document, and the journal that keeps what makes it.
type store struct {
	journal *journal.Journal
	doc     *core.Core
}

// halt is why a call ends in the midst: the power went while something was to be kept. Whatever else goes wrong can be told to a client, and the server goes on.
type halt struct {
	why api.Errno
}

func (h *halt) Error() string { return "halted: " + h.why.Error() }

func (h *halt) Unwrap() error { return h.why }

// stops tells whether an error is a halt.
func stops(err error) bool {
	var h *halt
	return errors.As(err, &h)
}

// number is that of an error, however it is wrapped; OK of none.
func number(err error) api.Errno {
	var n api.Errno
	if !errors.As(err, &n) {
		return api.OK
	}
	return n
}

// fault is a number as an error, of which OK is none.
func fault(n api.Errno) error {
	if n == api.OK {
		return nil
	}
	return n
}

// kept is an answer of the journal as an error.
func kept(n api.Errno) error {
	if n == api.ErrDown {
		return &halt{n}
	}
	return fault(n)
}

func (s *store) keep(label int, r api.Record) error {
	return kept(s.journal.Put(label, core.Put(r)))
}

// commit keeps a record ahead of doing what it says: so nobody is told what a crash could take back.
func (s *store) commit(label int, r api.Record) error {
	if err := s.keep(label, r); err != nil {
		return err
	}
	return fault(s.doc.Apply(r))
}

// ask is the record of what a client wants by a message; or why it is refused.
func (s *store) ask(who int, m api.Msg) (api.Record, api.Errno) {
	if m.Kind == api.MDown {
		return s.doc.Down(who, m.Seq, m.Rev, m.At, m.N, m.Target)
	}
	return s.doc.Edit(who, m.Seq, m.Rev, m.Edit)
}

// bringUp is a mark of what is seen at a label as it is at its revision; or that it can't be.
func (s *store) bringUp(label int, m mark) (mark, bool) {
	rev := s.doc.Rev(label)
	if m.rev > rev {
		return mark{}, false
	}
	for ; m.rev < rev; m.rev++ {
		step, _ := s.doc.Step(label, m.rev)
		at, bad := edit.Cursor(step.Edit, m.at, false)
		if bad != api.OK {
			return mark{}, false
		}
		m.at = at
	}
	return m, m.at <= s.doc.Size(label)
}
