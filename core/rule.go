package core

import (
	"sealskin/api"
	"sealskin/lattice"
)

// rule is a policy, and what hangs on it alone: who there is, and what they may.
type rule struct {
	policy api.Policy
}

func (r *rule) isLabel(i int) bool { return 0 <= i && i < len(r.policy.Labels) }

func (r *rule) isClient(who int) bool { return 0 <= who && who < len(r.policy.Entries) }

// labelOf is the label at which a client works, of which there must be one.
func (r *rule) labelOf(who int) int { return r.policy.Entries[who].Label }

func (r *rule) sees(view, label int) bool { return lattice.Sees(r.policy, view, label) }

func (r *rule) viewers(label int) []int { return lattice.Viewers(r.policy, label) }

// mayLower tells whether a client may let its text down to a label.
func (r *rule) mayLower(who, target int) bool {
	own := r.labelOf(who)
	return r.policy.Entries[who].Down && target != own && r.sees(own, target)
}

// within tells whether a label may have so many code points.
func (r *rule) within(label, chars int) bool { return chars <= r.policy.Quotas[label].Chars }

// moreOps tells whether a label that has so many commits may have one more.
func (r *rule) moreOps(label, ops int) bool { return ops < r.policy.Quotas[label].Ops }
