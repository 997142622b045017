package core

import (
	"sealskin/api"
	"sealskin/edit"
)

// history is a label's steps.
type history []api.Step

// sizeAt is how long what is seen was at a revision, now being as long as it is: a step is of just as many code points as there were then.
func (h history) sizeAt(rev, now int) int {
	if rev == len(h) {
		return now
	}
	from, _, _ := edit.Size(h[rev].Edit)
	return from
}

// bringUp is an edit of what was seen at a revision as it is behind all steps from there on; what it puts stands ahead of what they put. It shares nothing with the edit that is handed in.
func (h history) bringUp(rev int, e []api.Part) ([]api.Part, api.Errno) {
	e = edit.Norm(e...)
	for _, s := range h[rev:] {
		one, _, bad := edit.Transform(e, s.Edit)
		if bad != api.OK {
			return nil, bad
		}
		e = one
	}
	return e, api.OK
}
