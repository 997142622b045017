package console

import (
	"strings"

	"sealskin/api"
	"sealskin/world"
)

// stage is a world in which a script is played.
type stage struct {
	script
	world *world.World
	done  []api.Event // by all lines so far
	pairs []*pair     // of each label, and one of what is none; nil, if nobody asked for it
}

func newStage(what script) (*stage, api.Errno) {
	w, bad := world.New(what.policy)
	if bad != api.OK {
		return nil, bad
	}
	return &stage{script: what, world: w, pairs: make([]*pair, len(what.policy.Labels)+1)}, api.OK
}

// play is the report of all lines.
func (s *stage) play() string {
	var b strings.Builder
	for _, l := range s.lines {
		b.Write(s.answer(l))
		b.WriteByte('\n')
	}
	return b.String()
}

// do lets an event happen. Also one that comes to nothing was done.
func (s *stage) do(e api.Event) api.Errno {
	s.done = append(s.done, e)
	return s.world.Do(e)
}

func (s *stage) answer(l line) tale {
	if l.kind != 0 {
		return outcome(s.do(l.event()))
	}
	switch l.word {
	case "tick":
		s.tick(l.number[0])
		return outcome(api.OK)
	case "carry":
		s.carry(l.number[0])
		return outcome(api.OK)
	case "label":
		return s.tellLabel(l.number[0])
	case "audits":
		return s.tellAudits()
	case "purged":
		return s.tellPurged(l.number[0], l.number[1])
	}
	return s.tellClient(l)
}

func (s *stage) tick(times int) {
	for range times {
		s.do(api.Event{Kind: api.ETick})
	}
}

func (s *stage) carry(times int) {
	for range times {
		for who := range s.policy.Entries {
			s.carryOnce(who)
		}
	}
}

// carryOnce lets a frame of each side come. What the server sends only because the first one came waits for another time.
func (s *stage) carryOnce(who int) {
	up, down := s.world.Waiting(who)
	if up > 0 {
		s.do(api.Event{Kind: api.EUp, Client: who})
	}
	if down > 0 {
		s.do(api.Event{Kind: api.EDeliver, Client: who})
	}
}
