package whole

import (
	"fmt"
	"slices"
	"strings"
	"testing"

	"sealskin/api"
	"sealskin/audit"
	"sealskin/core"
	"sealskin/lattice"
	"sealskin/server"
	"sealskin/world"
)

// document is all that is told of a document.
func document(c *core.Core) string {
	return fmt.Sprint(c.Commits(), c.Elems(), c.Audits(), c.Root(), histories(c))
}

// The document is what the records on the disk make of nothing.
func TestP2Records(t *testing.T) {
	n := 0
	play(t, 200, func(w *world.World, p api.Policy, e api.Event, do func()) {
		do()
		if n++; n%7 != 0 {
			return
		}
		s, bad := server.Open(w.Disk(), p)
		if bad != api.OK || document(s.Core()) != document(w.Server().Core()) {
			t.Errorf("another document, %v", bad)
		}
	})
}

// What a client was told as done is committed, under its number, once, and stays so.
func TestP2Told(t *testing.T) {
	kept := 0
	play(t, 200, func(w *world.World, p api.Policy, e api.Event, do func()) {
		do()
		if e.Kind != api.ECrash && e.Kind != api.ETorn {
			return
		}
		for who, x := range p.Entries {
			times := map[int]int{}
			for _, s := range history(w.Server().Core(), x.Label) {
				if s.Who == who {
					times[s.Seq]++
				}
			}
			for _, y := range w.Client(who).Told() {
				if y.Seq > 0 && y.Err == api.OK {
					if kept++; times[y.Seq] != 1 {
						t.Errorf("%d's number %d stands there %d times", who, y.Seq, times[y.Seq])
					}
				}
			}
		}
	})
	if kept == 0 {
		t.Error("nothing was kept")
	}
}

// What a client shows is its text with what it did itself: just its text, if nothing is pending.
func TestP3Shows(t *testing.T) {
	calm := 0
	play(t, 300, func(w *world.World, p api.Policy, e api.Event, do func()) {
		do()
		for who := range p.Entries {
			if c := w.Client(who); !c.Pending() {
				if calm++; c.View() != c.Base() {
					t.Errorf("%d shows %q, not %q", who, c.View(), c.Base())
				}
			}
		}
	})
	if calm == 0 {
		t.Error("something was always pending")
	}
}

// What labels see in common stands in one order; what is gone never comes back; none is raised or changed; nobody touches text of another label.
func TestP3Order(t *testing.T) {
	gone := map[*world.World]map[int]int{}
	put, dropped, lowered := 0, 0, 0
	play(t, 300, func(w *world.World, p api.Policy, e api.Event, do func()) {
		if gone[w] == nil {
			gone[w] = map[int]int{}
		}
		past := w.Server().Core().Elems()
		do()
		own := -1 // the label of whoever came to the server
		if w.Client(e.Client) != nil && (e.Kind == api.EUp || e.Kind == api.ETorn) {
			own = p.Entries[e.Client].Label
		}
		rest := past
		for _, x := range w.Server().Core().Elems() {
			i := slices.IndexFunc(rest, func(y api.Elem) bool { return x.ID == y.ID })
			if i < 0 {
				if put++; x.Label != own || gone[w][x.ID] > 0 || slices.ContainsFunc(past, func(y api.Elem) bool { return x.ID == y.ID }) {
					t.Errorf("%v was put by %d", x, own)
				}
				continue
			}
			for _, y := range rest[:i] {
				drop(t, y, own, gone[w])
				dropped++
			}
			y := rest[i]
			rest = rest[i+1:]
			if x.Label != y.Label {
				lowered++
			}
			if x.Rune != y.Rune || x.Label != y.Label && (y.Label != own || !lattice.Sees(p, y.Label, x.Label)) {
				t.Errorf("%v became %v by %d", y, x, own)
			}
		}
		for _, y := range rest {
			drop(t, y, own, gone[w])
			dropped++
		}
		inOrder(t, w.Server().Core())
	})
	if put == 0 || dropped == 0 || lowered == 0 {
		t.Error("nothing was done", put, dropped, lowered)
	}
}

func drop(t *testing.T, x api.Elem, own int, gone map[int]int) {
	t.Helper()
	if x.Label != own {
		t.Errorf("%v was dropped by %d", x, own)
	}
	gone[x.ID]++
}

// inOrder asks that each label sees the code points that it may, in the order of all.
func inOrder(t *testing.T, c *core.Core) {
	t.Helper()
	for label := range c.Policy().Labels {
		var seen []api.Elem
		s := ""
		for _, x := range c.Elems() {
			if lattice.Sees(c.Policy(), label, x.Label) {
				seen = append(seen, x)
				s += string(x.Rune)
			}
		}
		if !slices.Equal(seen, c.Seen(label)) || s != c.Text(label) {
			t.Errorf("%d sees %q, not %q", label, c.Text(label), s)
		}
	}
}

// rest lets nothing be lost any more, all frames come, and time pass.
func rest(w *world.World, p api.Policy, ticks int) {
	for range ticks {
		for who := range p.Entries {
			for range 100 {
				up, down := w.Waiting(who)
				if up+down == 0 {
					break
				}
				w.Do(api.Event{Kind: api.EUp, Client: who})
				w.Do(api.Event{Kind: api.EDeliver, Client: who})
			}
		}
		w.Do(api.Event{Kind: api.ETick})
	}
}

// isSettled tells whether a client that is in has nothing pending, and shows what the server has for it.
func isSettled(w *world.World, p api.Policy, who int) bool {
	c := w.Client(who)
	return !c.Pending() && c.View() == w.Server().Core().Text(p.Entries[who].Label) && c.Rev() == w.Server().Core().Rev(p.Entries[who].Label)
}

// seatsOf is how many seats of a label are free.
func seatsOf(w *world.World, p api.Policy, label int) int {
	n := p.Quotas[label].Seats
	for who, x := range p.Entries {
		if _, open, _ := w.Server().State(who); open && x.Label == label {
			n--
		}
	}
	return n
}

// In the end whoever is in has nothing pending, and shows what the server has; whoever is not can come in, while there is a seat.
func TestP4End(t *testing.T) {
	in, came, seatless := 0, 0, 0
	for seed := range int64(runs) {
		p := policyOf(seed)
		w := newWorld(t, p)
		for _, e := range script(t, seed, p, 200) {
			w.Do(e)
		}
		rest(w, p, 60)
		for who, x := range p.Entries {
			state, _ := w.Client(who).State()
			_, open, _ := w.Server().State(who)
			if state == api.On {
				in++
			} else {
				free := seatsOf(w, p, x.Label) > 0
				w.Do(api.Event{Kind: api.ELogin, Client: who})
				rest(w, p, 10)
				state, _ = w.Client(who).State()
				_, open, _ = w.Server().State(who)
				if free != (state == api.On) {
					t.Fatalf("%d: %d is %d, a seat: %v", seed, who, state, free)
				}
				if !free {
					if l := w.Client(who).Told(); l[len(l)-1] != (api.Told{Err: api.ErrSeats}) {
						t.Fatalf("%d: %d was told %v", seed, who, l[len(l)-1])
					}
					seatless++
					continue
				}
				came++
			}
			if !open || !isSettled(w, p, who) {
				t.Fatalf("%d: %d shows %v", seed, who, w.Shot(who))
			}
		}
	}
	if in == 0 || came == 0 || seatless == 0 {
		t.Error("nobody was in", in, came, seatless)
	}
}

// Each thing that was let down was asked for by a client that may, goes to a label below its own, is just the text that those below then see more, and stands in the log with a proof.
func TestP5Told(t *testing.T) {
	asked := map[*world.World][]api.Event{}
	let := 0
	play(t, 300, func(w *world.World, p api.Policy, e api.Event, do func()) {
		c := w.Server().Core()
		audits, texts := len(c.Audits()), textsOf(c)
		if e.Kind == api.EDown {
			asked[w] = append(asked[w], e)
		}
		do()
		c = w.Server().Core()
		l := c.Audits()
		if len(l) == audits {
			return
		}
		if len(l) != audits+1 {
			t.Errorf("%d audits became %d", audits, len(l))
		}
		a := l[audits]
		let++
		own := p.Entries[a.Who].Label
		if !p.Entries[a.Who].Down || a.Target == own || !lattice.Sees(p, own, a.Target) || !wasAsked(asked[w], a) {
			t.Errorf("%v was let down", a)
		}
		for label, text := range textsOf(c) {
			switch {
			case !lattice.Sees(p, label, a.Target) || lattice.Sees(p, label, own):
				if text != texts[label] {
					t.Errorf("%v: %d sees %q, not %q", a, label, text, texts[label])
				}
			case label == a.Target:
				if at := len(string([]rune(texts[label])[:a.At])); !adds(texts[label], text, a.Text) || !strings.HasPrefix(text, texts[label][:at]+a.Text[:1]) {
					t.Errorf("%v: %d sees %q, not %q", a, label, text, texts[label])
				}
			case !adds(texts[label], text, a.Text):
				t.Errorf("%v: %d sees %q, not %q", a, label, text, texts[label])
			}
		}
		proves(t, c)
	})
	if let == 0 {
		t.Error("nothing was let down")
	}
}

func textsOf(c *core.Core) (l []string) {
	for label := range c.Policy().Labels {
		l = append(l, c.Text(label))
	}
	return l
}

// wasAsked tells whether one of those events asked for what was let down.
func wasAsked(l []api.Event, a api.Audit) bool {
	return slices.ContainsFunc(l, func(e api.Event) bool {
		return e.Client == a.Who && e.Target == a.Target && e.N == len([]rune(a.Text))
	})
}

// adds tells whether a text is another one with the code points of a third one put into it, in their order.
func adds(past, now, more string) bool {
	if now == "" {
		return past == "" && more == ""
	}
	return past != "" && past[0] == now[0] && adds(past[1:], now[1:], more) || more != "" && more[0] == now[0] && adds(past, now[1:], more[1:])
}

// proves asks that each thing that was let down has a proof.
func proves(t *testing.T, c *core.Core) {
	t.Helper()
	l := c.Audits()
	for i, a := range l {
		proof, bad := c.Prove(i)
		if bad != api.OK || audit.Proves(core.Entry(a), i, len(l), proof, c.Root()) != api.OK {
			t.Errorf("%v has no proof", a)
		}
	}
}
