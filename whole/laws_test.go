package whole

import (
	"fmt"
	"math/rand"
	"slices"
	"strings"
	"testing"

	"sealskin/api"
	"sealskin/core"
	"sealskin/edit"
	"sealskin/frame"
	"sealskin/world"
)

const runs = 60 // scripts of each test

// policyOf is the house, or whatever policy a seed makes.
func policyOf(seed int64) api.Policy {
	if seed%3 == 0 {
		return house()
	}
	return somePolicy(rand.New(rand.NewSource(seed)))
}

// play does scripts, and lets the world be looked at ahead of each event, and behind it.
func play(t *testing.T, n int, look func(w *world.World, p api.Policy, e api.Event, do func())) {
	t.Helper()
	for seed := range int64(runs) {
		p := policyOf(seed)
		w := newWorld(t, p)
		for _, e := range script(t, seed, p, n) {
			look(w, p, e, func() { w.Do(e) })
			if t.Failed() {
				t.Fatalf("script %d, event %+v", seed, e)
			}
		}
	}
}

func history(c *core.Core, label int) (l []api.Step) {
	for rev := range c.Rev(label) {
		x, _ := c.Step(label, rev)
		l = append(l, x)
	}
	return l
}

func histories(c *core.Core) (l []string) {
	for label := range c.Policy().Labels {
		l = append(l, fmt.Sprint(history(c, label)))
	}
	return l
}

// isCopy tells whether a client's base is what as many steps of its label as its revision says make of nothing.
func isCopy(w *world.World, p api.Policy, who int) bool {
	s := ""
	for rev := range w.Client(who).Rev() {
		x, ok := w.Server().Core().Step(p.Entries[who].Label, rev)
		if !ok {
			return false
		}
		s, _ = edit.Apply(x.Edit, s)
	}
	return s == w.Client(who).Base()
}

// Whatever is torn, the histories are those that were, with one commit more, if any; and what clients were told of them stays.
func TestP195Kept(t *testing.T) {
	torn, more := 0, 0
	play(t, 300, func(w *world.World, p api.Policy, e api.Event, do func()) {
		ahead := w.Server()
		past, commits := histories(ahead.Core()), ahead.Core().Commits()
		do()
		if w.Server() == ahead {
			return
		}
		n := w.Server().Core().Commits() - commits
		if n < 0 || n > 1 || n == 1 && e.Kind != api.ETorn {
			t.Errorf("%d commits", n)
		}
		torn++
		more += n
		for label, s := range histories(w.Server().Core()) {
			if !strings.HasPrefix(s, strings.TrimSuffix(past[label], "]")) || n == 0 && s != past[label] {
				t.Errorf("another history at %d", label)
			}
		}
		for who := range p.Entries {
			if !isCopy(w, p, who) {
				t.Errorf("%d has %q at %d", who, w.Client(who).Base(), w.Client(who).Rev())
			}
		}
	})
	if torn == 0 || more == 0 {
		t.Error("nothing was torn", torn, more)
	}
}

// Each number of each client is committed once, and told as done once.
func TestP196Once(t *testing.T) {
	done := 0
	for seed := range int64(runs) {
		p := policyOf(seed)
		w := newWorld(t, p)
		for _, e := range script(t, seed, p, 300) {
			w.Do(e)
		}
		for who, x := range p.Entries {
			last := 0
			for _, s := range history(w.Server().Core(), x.Label) {
				if s.Who != who {
					continue
				}
				if s.Seq != last+1 {
					t.Fatalf("%d: %d of %d", seed, s.Seq, who)
				}
				last++
			}
			next := 1
			for _, y := range w.Client(who).Told() {
				if y.Seq == 0 || y.Err != api.OK {
					continue
				}
				if y.Seq < next || y.Seq > w.Server().Core().Last(who) {
					t.Fatalf("%d: %d was told %d", seed, who, y.Seq)
				}
				next = y.Seq + 1
				done++
			}
		}
	}
	if done == 0 {
		t.Error("nothing was done")
	}
}

// A new server knows nobody as in, whatever frames of old connections come.
func TestP197Closed(t *testing.T) {
	sent := map[*world.World][][][]byte{} // what went up, by client
	n := 0
	play(t, 200, func(w *world.World, p api.Policy, e api.Event, do func()) {
		if sent[w] == nil {
			sent[w] = make([][][]byte, len(p.Entries))
		}
		do()
		for who := range p.Entries {
			up, _ := w.Waiting(who)
			if b, ok := w.Frame(who, 0, up-1); ok {
				sent[w][who] = append(sent[w][who], b)
			}
		}
		if n++; n%100 != 0 {
			return
		}
		conns := make([]int, len(p.Entries))
		for who := range p.Entries {
			conns[who], _, _ = w.Server().State(who)
		}
		w.Do(api.Event{Kind: api.ECrash})
		for who, conn := range conns {
			if !isClosed(w, who, conn, sent[w][who]) {
				t.Errorf("%d came in", who)
			}
		}
	})
}

// isClosed tells whether a client is out, with a connection that never begins anew.
func isClosed(w *world.World, who, conn int, sent [][]byte) bool {
	s := w.Server()
	now, open, told := s.State(who)
	if now != conn || open || told != 0 || len(s.Out(who)) != 0 {
		return false
	}
	for _, b := range sent {
		f, _ := frame.Peek(b)
		if f.Conn > conn {
			continue
		}
		bad := s.Take(who, b)
		if now, open, _ := s.State(who); now != conn || open || bad != api.ErrConn && bad != api.ErrShut {
			return false
		}
	}
	return true
}

// A client's base is always what as many steps of its label as its revision says make of nothing.
func TestP206Copy(t *testing.T) {
	play(t, 300, func(w *world.World, p api.Policy, e api.Event, do func()) {
		do()
		for who := range p.Entries {
			if !isCopy(w, p, who) {
				t.Errorf("%d has %q at %d", who, w.Client(who).Base(), w.Client(who).Rev())
			}
		}
	})
}

// What a client types is in its view at once.
func TestP207AtOnce(t *testing.T) {
	typed := 0
	play(t, 300, func(w *world.World, p api.Policy, e api.Event, do func()) {
		if e.Kind != api.EEdit || w.Client(e.Client) == nil {
			do()
			return
		}
		view := w.Client(e.Client).View()
		want := view
		if x, bad := edit.Replace(len([]rune(view)), e.At, e.N, e.Text); bad == api.OK {
			want, _ = edit.Apply(x, view)
		}
		if bad := w.Do(e); bad != api.OK {
			want = view
		}
		if now := w.Client(e.Client).View(); now != want {
			t.Errorf("%q became %q", view, now)
		}
		typed++
	})
	if typed == 0 {
		t.Error("nothing was typed")
	}
}

// pending is code points that a client shows, and that its base has not, a revision, and how many things it was told.
type pending struct {
	own       string
	rev, told int
}

func pendingOf(w *world.World, p api.Policy) (l []pending) {
	for who := range p.Entries {
		c := w.Client(who)
		x := pending{rev: c.Rev(), told: len(c.Told())}
		for _, r := range c.View() {
			if !strings.ContainsRune(c.Base(), r) {
				x.own += string(r)
			}
		}
		l = append(l, x)
	}
	return l
}

// What a client typed stays in its view, while it is pending, whatever comes, until it is refused.
func TestP207Stays(t *testing.T) {
	kept, next := 0, rune(0xe000)
	play(t, 300, func(w *world.World, p api.Policy, e api.Event, do func()) {
		if e.Kind == api.EEdit {
			e.Text, e.N = string(next), 0 // all that is typed is unlike
			next = 0xe000 + (next-0xe000+1)%6000
			w.Do(e)
			return
		}
		ahead := pendingOf(w, p)
		do()
		for who, x := range ahead {
			c := w.Client(who)
			if e.Client == who && (e.Kind == api.EUndo || e.Kind == api.ERedo) || isRefused(c.Told()[x.told:]) {
				continue
			}
			if c.Rev() > x.rev+1 { // it may be committed, and dropped by another one
				continue
			}
			for _, r := range x.own {
				if !strings.ContainsRune(c.View(), r) {
					t.Errorf("what %d typed is gone", who)
				}
				kept++
			}
		}
	})
	if kept == 0 {
		t.Error("nothing was pending")
	}
}

func isRefused(l []api.Told) bool {
	return slices.ContainsFunc(l, func(x api.Told) bool { return x.Seq > 0 && x.Err != api.OK })
}

// What was told stays; a number is told only if something was pending.
func TestP208Told(t *testing.T) {
	numbers := 0
	play(t, 300, func(w *world.World, p api.Policy, e api.Event, do func()) {
		var told [][]api.Told
		var pending []bool
		for who := range p.Entries {
			told, pending = append(told, w.Client(who).Told()), append(pending, w.Client(who).Pending())
		}
		do()
		for who := range p.Entries {
			now, n := w.Client(who).Told(), len(told[who])
			if len(now) < n || !slices.Equal(now[:n], told[who]) {
				t.Fatalf("%d was told something else", who)
			}
			for _, x := range now[n:] {
				if x.Seq > 0 && !pending[who] {
					t.Errorf("%d was told %d", who, x.Seq)
				}
				numbers += x.Seq
			}
		}
	})
	if numbers == 0 {
		t.Error("nobody was told a number")
	}
}

// What is committed is what an edit became at its client: no client ever finds that a step does not fit. And its view stays as it is, when it is told so.
func TestP209Same(t *testing.T) {
	done := 0
	play(t, 300, func(w *world.World, p api.Policy, e api.Event, do func()) {
		c := w.Client(e.Client)
		if e.Kind != api.EDeliver || c == nil {
			do()
			return
		}
		view, rev, n := c.View(), c.Rev(), len(c.Told())
		do()
		told := c.Told()[n:]
		for _, x := range told {
			if x.Err == api.ErrGap {
				t.Errorf("%d fell", e.Client)
			}
		}
		if len(told) == 1 && told[0].Seq > 0 && told[0].Err == api.OK && c.Rev() == rev+1 {
			if done++; c.View() != view {
				t.Errorf("%q became %q", view, c.View())
			}
		}
	})
	if done == 0 {
		t.Error("nothing was done")
	}
}
