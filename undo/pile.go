package undo

import (
	"slices"

	"sealskin/api"
	"sealskin/edit"
)

// pile is edits. The last one is of the text as it is, each other one of what the one above it makes.
type pile [][]api.Part

// push is a pile with one more edit; the first one goes, where there would be too many.
func (p pile) push(e []api.Part) pile {
	p = append(p, e)
	return slices.Delete(p, 0, max(len(p)-api.MaxUndo, 0))
}

// top is the last edit, which there must be; pop is the pile without it.
func (p pile) top() []api.Part { return p[len(p)-1] }

func (p pile) pop() pile { return slices.Delete(p, len(p)-1, len(p)) }

// behind is a new pile, of the same edits as they are behind another one.
func (p pile) behind(e []api.Part) (pile, api.Errno) {
	l := make(pile, len(p))
	for i, own := range slices.Backward(p) {
		one, two, bad := edit.Transform(own, e)
		if bad != api.OK {
			return nil, api.ErrLong
		}
		l[i], e = one, two
	}
	return l, api.OK
}
