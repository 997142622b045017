package watch

import (
	"sealskin/api"
	"sealskin/core"
	"sealskin/lattice"
	"sealskin/world"
)

// play does a script in a new world, and lets that be looked at behind each event, with whether it stays at a label.
func play(p api.Policy, label int, l []api.Event, look func(w *world.World, stays bool)) (*world.World, api.Errno) {
	w, bad := world.New(p)
	if bad != api.OK {
		return nil, bad
	}
	for _, e := range l {
		w.Do(e)
		_, stays := Stays(p, label, e)
		look(w, stays)
	}
	return w, api.OK
}

// Observe is what those show who work at what is seen at a label, behind each event that stays.
func Observe(p api.Policy, label int, l []api.Event) ([][]api.Shot, api.Errno) {
	var out [][]api.Shot
	low := Low(p, label)
	_, bad := play(p, label, l, func(w *world.World, stays bool) {
		if stays {
			out = append(out, shots(w, low))
		}
	})
	return out, bad
}

func shots(w *world.World, clients []int) []api.Shot {
	var l []api.Shot
	for _, who := range clients {
		l = append(l, w.Shot(who))
	}
	return l
}

// Releases is what was let down from what is not seen at a label to what is, in order.
func Releases(p api.Policy, label int, l []api.Event) ([]api.Release, api.Errno) {
	var out []api.Release
	before, rev := 0, 0
	w, bad := play(p, label, l, func(w *world.World, stays bool) {
		c := w.Server().Core()
		for ; rev < c.Rev(label); rev++ {
			if step, _ := c.Step(label, rev); !isLow(p, label, step.Who) {
				out = append(out, api.Release{Before: before, Who: step.Who, Edit: step.Edit})
			}
		}
		if stays {
			before++
		}
	})
	if bad != api.OK {
		return nil, bad
	}
	for i, target := range targets(p, label, w.Server().Core(), len(out)) {
		out[i].Target = target
	}
	return out, api.OK
}

// targets is where to the first things went that were let down from what is not seen at a label to what is: each of them is a step there.
func targets(p api.Policy, label int, c *core.Core, most int) []int {
	var l []int
	for _, a := range c.Audits() {
		if len(l) < most && !isLow(p, label, a.Who) && lattice.Sees(p, label, a.Target) {
			l = append(l, a.Target)
		}
	}
	return l
}
