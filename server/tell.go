package server

import (
	"sealskin/api"
)

// Out is the bytes that go to a client now.
func (s *Server) Out(who int) [][]byte {
	l := s.lineOf(who)
	if l == nil {
		return nil
	}
	l.sendAhead()
	if s.isIn(who) {
		s.sendSteps(l, s.labelOf(who))
		s.sendCursors(l, s.labelOf(who))
	}
	return l.frames()
}

func (s *Server) sendSteps(l *line, label int) {
	for l.hasRoom() {
		step, ok := s.doc.Step(label, l.told)
		if !ok {
			return
		}
		l.told++
		l.send(api.Msg{Kind: api.MStep, Rev: l.told, Who: step.Who, Seq: step.Seq, Edit: step.Edit})
	}
}

// sendCursors finds room only where all steps were told, so that the places are those of the text that the client has then.
func (s *Server) sendCursors(l *line, label int) {
	for other := range s.policy.Entries {
		if !l.hasRoom() {
			return
		}
		if _, wanted := l.due[other]; !wanted {
			continue
		}
		delete(l.due, other)
		if at, ok := s.cursorOf(other, label); ok {
			l.send(api.Msg{Kind: api.MPeer, Who: other, Rev: s.doc.Rev(label), At: at})
		}
	}
}

// cursorOf is where a client's cursor is in what is seen at a label.
func (s *Server) cursorOf(who, label int) (int, bool) {
	own := s.labelOf(who)
	m, ok := s.marks[who]
	if ok {
		m, ok = s.bringUp(own, m)
	}
	if !ok {
		return 0, false
	}
	at, bad := s.doc.Carry(own, m.at, label)
	return at, bad == api.OK
}
