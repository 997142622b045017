package match

import (
	"sealskin/api"
	"sealskin/text"
)

// Swap is the edit by which a text stands for a pattern, wherever that stands.
func (p *Pattern) Swap(in, with string) ([]api.Part, api.Errno) {
	s, bad := p.look(in)
	if bad != api.OK {
		return nil, bad
	}
	runes, bad := text.Runes(with, maxText)
	if bad != api.OK {
		return nil, bad
	}
	pieces, all := piecesOf(runes), s.all()
	if weigh(pieces, all) > api.MaxSpan {
		return nil, api.ErrLong
	}
	var patch text.Patch
	for _, x := range all {
		patch.Put(x[0], x[1], fill(pieces, s.text, x))
	}
	return patch.Edit(len(s.text)), api.OK
}

// piece is some of what is put: a code point that stands for itself, or what a group has (0: the whole).
type piece struct {
	self  rune
	group int
}

const noGroup = -1

func piecesOf(with []rune) []piece {
	var l []piece
	for i := 0; i < len(with); i++ {
		p := piece{with[i], noGroup}
		if with[i] == '$' && i+1 < len(with) {
			switch c := with[i+1]; {
			case c == '$':
				i++
			case digits()(c):
				p = piece{group: int(c - '0')}
				i++
			}
		}
		l = append(l, p)
	}
	return l
}

// stretch is from where to where a group stands in what was found; an empty one, if there is no such group, or it has nothing.
func stretch(found []int, group int) (from, to int) {
	if 2*group >= len(found) || found[2*group] < 0 {
		return 0, 0
	}
	return found[2*group], found[2*group+1]
}

// weigh is how many code points are put in all; it is told ahead of laying any of them out.
func weigh(pieces []piece, all [][]int) int {
	n := 0
	for _, x := range all {
		for _, p := range pieces {
			if p.group == noGroup {
				n++
				continue
			}
			from, to := stretch(x, p.group)
			n += to - from
		}
	}
	return n
}

func fill(pieces []piece, in []rune, found []int) string {
	var out []rune
	for _, p := range pieces {
		if p.group == noGroup {
			out = append(out, p.self)
			continue
		}
		from, to := stretch(found, p.group)
		out = append(out, in[from:to]...)
	}
	return string(out)
}
