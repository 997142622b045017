package whole

import (
	"bytes"
	"fmt"
	"slices"
	"strings"
	"testing"

	"sealskin/api"
	"sealskin/core"
	"sealskin/edit"
	"sealskin/frame"
	"sealskin/lattice"
)

const runs = 60

// Whatever is torn, the histories are those that were, with one commit more, if any; and what clients were told of them stays.
func TestP195Kept(t *testing.T) {
	torn, more := 0, 0
	for seed := range int64(runs) {
		w := newTown(t, house())
		for _, x := range script(seed, w.p, 400) {
			ahead := w.s.Core()
			past, n := histories(ahead), ahead.Commits()
			w.do(x)
			if w.s.Core() == ahead {
				continue
			}
			torn++
			more += w.s.Core().Commits() - n
			if n := w.s.Core().Commits() - n; n < 0 || n > 1 {
				t.Fatalf("%d: %d commits", seed, n)
			}
			for label, s := range histories(w.s.Core()) {
				if !strings.HasPrefix(s, past[label]) {
					t.Fatalf("%d: another history at %d", seed, label)
				}
			}
			for who := range w.all {
				if !w.isCopy(who) {
					t.Fatalf("%d: %d has %q at %d", seed, who, w.all[who].Base(), w.all[who].Rev())
				}
			}
		}
	}
	if torn == 0 || more == 0 {
		t.Error("nothing was torn", torn, more)
	}
}

func histories(c *core.Core) (l []string) {
	for label := range c.Policy().Labels {
		l = append(l, fmt.Sprint(history(c, label)...))
	}
	return l
}

func history(c *core.Core, label int) (l []any) {
	for rev := range c.Rev(label) {
		x, _ := c.Step(label, rev)
		l = append(l, x)
	}
	return l
}

// Each number of each client is committed once, and told as done once.
func TestP196Once(t *testing.T) {
	done := 0
	for seed := range int64(runs) {
		w := newTown(t, house())
		for _, x := range script(seed, w.p, 400) {
			w.do(x)
		}
		next := make([]int, len(w.p.Entries))
		for _, x := range history(w.s.Core(), top) {
			s := x.(api.Step)
			if next[s.Who]++; s.Seq != next[s.Who] {
				t.Fatalf("%d: %d of %d", seed, s.Seq, s.Who)
			}
		}
		for who := range w.all {
			told := map[int]int{}
			for _, x := range w.all[who].Told() {
				if x.Err == api.OK {
					told[x.Seq]++
					done++
				}
			}
			for seq, n := range told {
				if n != 1 || seq > w.s.Core().Last(who) {
					t.Fatalf("%d: %d was told %d %d times", seed, who, seq, n)
				}
			}
		}
	}
	if done == 0 {
		t.Error("nothing was done")
	}
}

// A new server knows nobody as in, whatever frames of old connections come.
func TestP197Closed(t *testing.T) {
	for seed := range int64(runs) {
		w := newTown(t, house())
		sent := make([][][]byte, len(w.all)) // what went up, by client
		for i, x := range script(seed, w.p, 300) {
			w.do(x)
			for who, r := range w.all {
				if len(r.up) > 0 {
					sent[who] = append(sent[who], r.up[len(r.up)-1])
				}
			}
			if i%50 != 0 {
				continue
			}
			conns := make([]int, len(w.all))
			for who := range w.all {
				conns[who], _, _ = w.s.State(who)
			}
			w.crash()
			for who, conn := range conns {
				if !w.isClosed(who, conn, sent[who]) {
					t.Fatalf("%d: %d came in", seed, who)
				}
			}
		}
	}
}

// isClosed tells whether a client is out, with a connection that never begins anew.
func (w *town) isClosed(who, conn int, sent [][]byte) bool {
	now, open, told := w.s.State(who)
	if now != conn || open || told != 0 || len(w.s.Out(who)) != 0 {
		return false
	}
	for _, b := range sent {
		f, _ := frame.Peek(b)
		if f.Conn > conn {
			continue
		}
		bad := w.s.Take(who, b)
		if now, open, _ := w.s.State(who); now != conn || open || bad != api.ErrConn && bad != api.ErrShut {
			return false
		}
	}
	return true
}

// All that low clients are sent, frame by frame, and all that they show, is what it is without all others, if nothing is let down to what they see.
func TestP198Sight(t *testing.T) {
	frames, others := 0, 0
	for seed := range int64(runs) {
		for label := range house().Labels {
			p := house()
			p.Quotas[low].Seats, p.Quotas[high].Chars = 1+int(seed%2), 20
			whole, part := newTown(t, p), newTown(t, p)
			for _, x := range script(seed, p, 300) {
				y, stays := purge(p, label, x)
				if !stays && x.kind == lowers && lattice.Sees(p, label, x.target) {
					continue
				}
				whole.do(x)
				if !stays {
					others++
					continue
				}
				part.do(y)
				for who := range p.Entries {
					if isLow(p, label, who) && !alike(whole, part, who) {
						t.Fatalf("%d: at %d client %d shows %s, not %s", seed, label, who, whole.shows(who), part.shows(who))
					}
					frames += len(part.all[who].down)
				}
			}
		}
	}
	if frames == 0 || others == 0 {
		t.Error("nothing was done", frames, others)
	}
}

// isLow tells whether a client's text is seen at a label.
func isLow(p api.Policy, label, who int) bool { return lattice.Sees(p, label, p.Entries[who].Label) }

// purge is what stays of something without those that are not low: the power goes for all.
func purge(p api.Policy, label int, x act) (act, bool) {
	switch {
	case x.kind >= passes || isLow(p, label, x.who):
		return x, true
	case x.kind == isTorn:
		return act{kind: crashes}, true
	}
	return act{}, false
}

// alike tells whether a client shows the same in two towns, and the same is on its way to it, and from it.
func alike(a, b *town, who int) bool {
	return a.shows(who) == b.shows(who) && slices.EqualFunc(a.all[who].down, b.all[who].down, bytes.Equal) && slices.EqualFunc(a.all[who].up, b.all[who].up, bytes.Equal)
}

// A client's base is always what as many steps of its label as its revision says make of nothing.
func TestP206Copy(t *testing.T) {
	for seed := range int64(runs) {
		w := newTown(t, house())
		for _, x := range script(seed, w.p, 400) {
			w.do(x)
			for who := range w.all {
				if !w.isCopy(who) {
					t.Fatalf("%d: %d has %q at %d", seed, who, w.all[who].Base(), w.all[who].Rev())
				}
			}
		}
	}
}

func (w *town) isCopy(who int) bool {
	c, s := w.s.Core(), ""
	for rev := range w.all[who].Rev() {
		x, ok := c.Step(w.p.Entries[who].Label, rev)
		if !ok {
			return false
		}
		s, _ = edit.Apply(x.Edit, s)
	}
	return s == w.all[who].Base()
}

// What a client types is in its view at once, and stays there, while it is pending, whatever comes, until it is refused.
func TestP207AtOnce(t *testing.T) {
	kept := 0
	for seed := range int64(runs) {
		w := newTown(t, house())
		for i, x := range script(seed, w.p, 400) {
			x.text = string(rune(0xe000 + i)) // all that is typed is unlike
			if x.kind == edits {
				r := &w.all[x.who]
				view := []rune(r.View())
				at, n := x.stretch(r)
				want := string(view[:at]) + x.text + string(view[at+n:])
				if bad := r.Edit(at, n, x.text); bad == api.OK && r.View() != want {
					t.Fatalf("%d: %q, not %q", seed, r.View(), want)
				}
				w.flush()
				continue
			}
			ahead := w.views()
			w.do(x)
			for who := range w.all {
				if x.who == who && (x.kind == undoes || x.kind == redoes) || w.refused(who, ahead[who].told) {
					continue
				}
				if w.all[who].Rev() > ahead[who].rev+1 { // it may be committed, and dropped by another one
					continue
				}
				for _, c := range ahead[who].pending {
					if !strings.ContainsRune(w.all[who].View(), c) {
						t.Fatalf("%d: what %d typed is gone", seed, who)
					}
					kept++
				}
			}
		}
	}
	if kept == 0 {
		t.Error("nothing was pending")
	}
}

// sight is which code points of its own a client shows that are pending, its revision, and how many things it was told.
type sight struct {
	pending   string
	rev, told int
}

func (w *town) views() (l []sight) {
	for _, r := range w.all {
		s := sight{rev: r.Rev(), told: len(r.Told())}
		for _, c := range r.View() {
			if !strings.ContainsRune(r.Base(), c) {
				s.pending += string(c)
			}
		}
		l = append(l, s)
	}
	return l
}

func (w *town) refused(who, told int) bool {
	for _, x := range w.all[who].Told()[told:] {
		if x.Seq > 0 && x.Err != api.OK {
			return true
		}
	}
	return false
}

// What was told stays; a number is told only if something was pending.
func TestP208Told(t *testing.T) {
	numbers := 0
	for seed := range int64(runs) {
		w := newTown(t, house())
		for _, x := range script(seed, w.p, 400) {
			var told [][]api.Told
			var pending []bool
			for _, r := range w.all {
				told, pending = append(told, r.Told()), append(pending, r.Pending())
			}
			w.do(x)
			for who, r := range w.all {
				now := r.Told()
				if len(now) < len(told[who]) || !slices.Equal(now[:len(told[who])], told[who]) {
					t.Fatalf("%d: %d was told something else", seed, who)
				}
				for _, y := range now[len(told[who]):] {
					if y.Seq > 0 && !pending[who] {
						t.Fatalf("%d: %d was told %d", seed, who, y.Seq)
					}
					numbers += y.Seq
				}
			}
		}
	}
	if numbers == 0 {
		t.Error("nobody was told a number")
	}
}

// What is committed is what an edit became at its client: no client ever finds that a step does not fit. And its view stays as it is, when it is told so.
func TestP209Same(t *testing.T) {
	done := 0
	for seed := range int64(runs) {
		w := newTown(t, house())
		for _, x := range script(seed, w.p, 400) {
			r := &w.all[x.who]
			view, rev, n := r.View(), r.Rev(), len(r.Told())
			w.do(x)
			if x.kind != comesDown && x.kind != carries {
				continue
			}
			told := r.Told()[n:]
			for _, y := range told {
				if y.Err == api.ErrGap {
					t.Fatalf("%d: %d fell", seed, x.who)
				}
			}
			if len(told) == 1 && told[0].Seq > 0 && told[0].Err == api.OK && r.Rev() == rev+1 {
				if done++; r.View() != view {
					t.Fatalf("%d: %q became %q", seed, view, r.View())
				}
			}
		}
	}
	if done == 0 {
		t.Error("nothing was done")
	}
}

// In the end, when nothing is lost any more, all are in, nothing is pending, and all show what the server has for them.
func TestP4End(t *testing.T) {
	for seed := range int64(runs) {
		w := newTown(t, house())
		for _, x := range script(seed, w.p, 400) {
			w.do(x)
		}
		for round := range 100 {
			for who, r := range w.all {
				if state, _ := r.State(); state == api.Off && round%30 == 0 {
					w.do(act{kind: logsIn, who: who})
				}
				w.do(act{kind: carries, who: who})
			}
			w.do(act{kind: passes})
		}
		for who, r := range w.all {
			if state, _ := r.State(); state != api.On || r.Pending() || r.View() != w.s.Core().Text(w.p.Entries[who].Label) {
				t.Fatalf("%d: %d shows %s", seed, who, w.shows(who))
			}
		}
	}
}
