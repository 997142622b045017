package server

import (
	"sealskin/api"
	"sealskin/frame"
)

// heedAll heeds what bodies say, up to an error that ends the call; those that are no messages say nothing.
func (s *Server) heedAll(who int, bodies [][]byte) error {
	for _, b := range bodies {
		m, bad := frame.Get(b)
		if bad != api.OK {
			continue
		}
		if err := s.heed(who, m); err != nil {
			return err
		}
	}
	return nil
}

func (s *Server) heed(who int, m api.Msg) error {
	if !s.isIn(who) {
		if m.Kind == api.MLogin {
			s.login(who, m.Rev)
		}
		return nil
	}
	switch m.Kind {
	case api.MEdit, api.MDown:
		return s.wish(who, m)
	case api.MCursor:
		s.point(who, mark{m.Rev, m.At})
	case api.MBye:
		s.leave(who)
	}
	return nil
}

// login lets a client in that has all steps up to a revision, or tells it why not.
func (s *Server) login(who, rev int) {
	l, now := s.lines[who], s.doc.Rev(s.labelOf(who))
	bad := api.ErrStale
	if rev <= now {
		bad = s.desk.Open(who)
	}
	if bad != api.OK {
		l.tell(api.Msg{Kind: api.MBye, Err: bad})
		return
	}
	l.told = rev
	l.tell(api.Msg{Kind: api.MHello, Rev: now, Seq: s.doc.Last(who)})
	for other := range s.marks {
		if s.shows(who, other) {
			l.due[other] = struct{}{}
		}
	}
}

// wish commits what a client wants, or tells it why not. What was committed came once more: its step says so.
func (s *Server) wish(who int, m api.Msg) error {
	if m.Seq <= s.doc.Last(who) {
		return nil
	}
	r, bad := s.ask(who, m)
	err := fault(bad)
	if err == nil {
		err = s.commit(s.labelOf(who), r)
	}
	if stops(err) {
		return err
	}
	if err != nil {
		s.lines[who].tell(api.Msg{Kind: api.MRefuse, Seq: m.Seq, Err: number(err)})
	}
	return nil
}

// point lets a client's cursor be somewhere, if that is a place, and all who may know of it be told. The mark is kept as it is now: brought up from here on, it comes to where it would come from its own revision.
func (s *Server) point(who int, m mark) {
	m, ok := s.bringUp(s.labelOf(who), m)
	if !ok {
		return
	}
	s.marks[who] = m
	for other := range s.policy.Entries {
		if s.isIn(other) && s.shows(other, who) {
			s.lines[other].due[who] = struct{}{}
		}
	}
}
