package world

import (
	"slices"

	"sealskin/api"
)

// Sides of a link.
const (
	toServer = 0
	toClient = 1
)

// link is the frames on their way, of both sides, in order. A frame's bytes never change.
type link struct {
	sides [2][][]byte
}

// frame is one that is on its way.
func (l *link) frame(side, k int) ([]byte, bool) {
	if side < toServer || side > toClient || k < 0 || k >= len(l.sides[side]) {
		return nil, false
	}
	return l.sides[side][k], true
}

// pull takes a frame off its way.
func (l *link) pull(side, k int) ([]byte, bool) {
	b, ok := l.frame(side, k)
	if ok {
		l.sides[side] = slices.Delete(l.sides[side], k, k+1)
	}
	return b, ok
}

func (l *link) hasRoom(side int) bool { return len(l.sides[side]) < api.MaxLink }

// push puts frames on their way; those that find no room are lost.
func (l *link) push(side int, frames [][]byte) {
	for _, b := range frames {
		if l.hasRoom(side) {
			l.sides[side] = append(l.sides[side], b)
		}
	}
}

// lose lets a frame be lost.
func (l *link) lose(side, k int) api.Errno {
	if _, ok := l.pull(side, k); !ok {
		return api.ErrStep
	}
	return api.OK
}

// double lets a frame be on its way once more, behind all others.
func (l *link) double(side, k int) api.Errno {
	b, ok := l.frame(side, k)
	switch {
	case !ok:
		return api.ErrStep
	case !l.hasRoom(side):
		return api.ErrFull
	}
	l.push(side, [][]byte{b})
	return api.OK
}
