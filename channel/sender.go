package channel

import (
	"slices"

	"sealskin/api"
)

// parcel is a body that was not acknowledged. It is due again, once as many ticks went by since it was sent as api.Again says.
type parcel struct {
	seq   int
	body  []byte // never changed, so that ends may share it
	sent  bool
	ticks int // since it was sent
}

// sender is the side that sends.
type sender struct {
	next    int // the number of the next body
	waiting []parcel
}

func newSender() sender { return sender{next: 1} }

func (s *sender) add(body []byte) {
	s.waiting = append(s.waiting, parcel{seq: s.next, body: body})
	s.next++
}

// acknowledge forgets those that came. One that was never sent can't have come, whatever a frame says.
func (s *sender) acknowledge(ack int) {
	n := 0
	for n < len(s.waiting) && s.waiting[n].sent && s.waiting[n].seq <= ack {
		n++
	}
	s.waiting = slices.Delete(s.waiting, 0, n)
}

// window is the first ones: those alone may be on their way. Its room is cut off, so that nothing that is put behind them lands on those that stand there.
func (s *sender) window() []parcel {
	n := min(len(s.waiting), api.Window)
	return s.waiting[:n:n]
}

func (s *sender) age() {
	w := s.window()
	for i := range w {
		if w[i].sent {
			w[i].ticks++
		}
	}
}

// leave is those that are to be sent now; with that they are sent.
func (s *sender) leave() []parcel {
	var l []parcel
	w := s.window()
	for i := range w {
		p := &w[i]
		if p.sent && p.ticks < api.Again {
			continue
		}
		p.sent, p.ticks = true, 0
		l = append(l, *p)
	}
	return l
}

func (s *sender) twin() sender {
	return sender{s.next, slices.Clone(s.waiting)}
}
