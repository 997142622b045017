package channel

import (
	"slices"

	"sealskin/api"
)

// receiver is the side that receives.
type receiver struct {
	wanted int            // the number of the next body
	early  map[int][]byte // bodies that came, but were not told, by their numbers
	owes   bool           // an acknowledgement
}

func newReceiver() receiver { return receiver{wanted: 1, early: map[int][]byte{}} }

// told is how many bodies were told, which is the last one's number, too.
func (r *receiver) told() int { return r.wanted - 1 }

// keep takes a body, unless it was told, or came early already, or is so far ahead that the other end can't have sent it. It owes an acknowledgement in any case: the last one may be lost.
func (r *receiver) keep(seq int, body []byte) {
	r.owes = true
	if seq < r.wanted || seq-r.wanted >= api.Window || r.early[seq] != nil {
		return
	}
	r.early[seq] = slices.Clone(body)
}

// tell is the bodies that are next, in order, as far as they came.
func (r *receiver) tell() [][]byte {
	var l [][]byte
	for r.early[r.wanted] != nil {
		l = append(l, r.early[r.wanted])
		delete(r.early, r.wanted)
		r.wanted++
	}
	return l
}

// twin has bodies of its own: those of an end become their caller's when they are told.
func (r *receiver) twin() receiver {
	early := make(map[int][]byte, len(r.early))
	for seq, body := range r.early {
		early[seq] = slices.Clone(body)
	}
	return receiver{r.wanted, early, r.owes}
}
