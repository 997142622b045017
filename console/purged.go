package console

import (
	"sealskin/api"
	"sealskin/watch"
	"sealskin/world"
)

// tellPurged is how many of all events stay at a label, and for how long those who work there can't tell that the others are lacking.
func (s *stage) tellPurged(label, most int) tale {
	if len(s.done) > most {
		return outcome(api.ErrLong)
	}
	p, bad := s.pairOf(label)
	if bad != api.OK {
		return outcome(bad)
	}
	for _, e := range s.done[p.past:] {
		p.do(e)
	}
	return tell("purged").join(p.stay, p.same)
}

// pairOf is the pair of a label, as it was when it was last asked for. All places that no label has share one: they see the same, nothing.
func (s *stage) pairOf(label int) (*pair, api.Errno) {
	at := min(label, len(s.policy.Labels))
	if s.pairs[at] == nil {
		p, bad := newPair(s.policy, label)
		if bad != api.OK {
			return nil, bad
		}
		s.pairs[at] = p
	}
	return s.pairs[at], api.OK
}

// pair is a world in which all is done, and one in which just what stays at a label is, side by side: what they show is held against each other event by event, since all of it together may be more than there is room for.
type pair struct {
	policy api.Policy
	label  int
	low    []int
	all    *world.World
	part   *world.World
	past   int // events that were done
	stay   int // those of them that stayed
	same   int // observations that were the same, up to the first that was not
}

func newPair(policy api.Policy, label int) (*pair, api.Errno) {
	all, bad := world.New(policy)
	if bad != api.OK {
		return nil, bad
	}
	part, bad := world.New(policy)
	if bad != api.OK {
		return nil, bad
	}
	return &pair{policy: policy, label: label, low: watch.Low(policy, label), all: all, part: part}, api.OK
}

// do takes one more event in. Behind the first observation that is another one nothing counts but how many stay.
func (p *pair) do(e api.Event) {
	p.past++
	isSame := p.same == p.stay
	x, stays := watch.Stays(p.policy, p.label, e)
	if stays {
		p.stay++
	}
	if !isSame {
		return
	}
	p.all.Do(e)
	if stays {
		p.part.Do(x)
		p.same += watch.Alike([][]api.Shot{p.shots(p.all)}, [][]api.Shot{p.shots(p.part)})
	}
}

// shots is what those show in a world whose text is seen at the label.
func (p *pair) shots(w *world.World) []api.Shot {
	var l []api.Shot
	for _, who := range p.low {
		l = append(l, w.Shot(who))
	}
	return l
}
