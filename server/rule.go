package server

import (
	"sealskin/api"
	"sealskin/lattice"
)

// rule is a policy, and what hangs on it alone.
type rule struct {
	policy api.Policy
}

func (r *rule) isClient(who int) bool { return 0 <= who && who < len(r.policy.Entries) }

// labelOf is the label at which a client works, of which there must be one.
func (r *rule) labelOf(who int) int { return r.policy.Entries[who].Label }

func (r *rule) secretOf(who int) string { return r.policy.Entries[who].Secret }

// shows tells whether a client sees the text of another one, and so may know where its cursor is.
func (r *rule) shows(who, other int) bool {
	return who != other && lattice.Sees(r.policy, r.labelOf(who), r.labelOf(other))
}
