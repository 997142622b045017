package whole

import (
	"bytes"
	"math/rand"
	"slices"
	"testing"

	"sealskin/api"
	"sealskin/watch"
	"sealskin/world"
)

func observe(t *testing.T, p api.Policy, label int, l []api.Event) [][]api.Shot {
	t.Helper()
	x, bad := watch.Observe(p, label, l)
	if bad != api.OK {
		t.Fatal(bad)
	}
	return x
}

func releases(t *testing.T, p api.Policy, label int, l []api.Event) []api.Release {
	t.Helper()
	x, bad := watch.Releases(p, label, l)
	if bad != api.OK {
		t.Fatal(bad)
	}
	return x
}

// cleanScript is one by a seed in which nobody above asks that something be let down to what is seen at a label.
func cleanScript(t *testing.T, seed int64, p api.Policy, label, n int) []api.Event {
	t.Helper()
	return slices.DeleteFunc(script(t, seed, p, n), func(e api.Event) bool { return !watch.Clean(p, label, []api.Event{e}) })
}

// If nothing is asked to be let down, a script shows what it shows without those who are not low.
func TestP1Purged(t *testing.T) {
	frames, gone := 0, 0
	for seed := range int64(2 * runs) {
		p := policyOf(seed)
		label := int(seed) % len(p.Labels)
		l := cleanScript(t, seed, p, label, 300)
		part := watch.Purge(p, label, l)
		a, b := observe(t, p, label, l), observe(t, p, label, part)
		if n := watch.Alike(a, b); n != len(part) || len(a) != n || len(b) != n {
			t.Fatalf("%d: at %d alike behind %d of %d events", seed, label, n, len(part))
		}
		if n := len(releases(t, p, label, l)); n != 0 {
			t.Fatalf("%d: at %d %d things were let down", seed, label, n)
		}
		frames += count(a)
		gone += len(l) - len(part)
	}
	if frames == 0 || gone == 0 {
		t.Error("nothing was seen", frames, gone)
	}
}

// count is how many frames came.
func count(l [][]api.Shot) (n int) {
	for _, x := range l {
		for _, s := range x {
			if s.Got != nil {
				n++
			}
		}
	}
	return n
}

// All that is on its way to low clients, and from them, is what it is without the others: also what never comes.
func TestP198Sight(t *testing.T) {
	frames := 0
	for seed := range int64(runs) {
		p := policyOf(seed)
		label := int(seed) % len(p.Labels)
		whole, part := newWorld(t, p), newWorld(t, p)
		for _, e := range cleanScript(t, seed, p, label, 300) {
			whole.Do(e)
			x, stays := watch.Stays(p, label, e)
			if !stays {
				continue
			}
			part.Do(x)
			for _, who := range watch.Low(p, label) {
				a, b := ways(whole, who), ways(part, who)
				if !slices.EqualFunc(a, b, bytes.Equal) {
					t.Fatalf("%d: at %d other frames of %d", seed, label, who)
				}
				frames += len(a)
			}
		}
	}
	if frames == 0 {
		t.Error("nothing was on its way")
	}
}

// ways is all frames that are on their way between a client and the server, with none between the sides.
func ways(w *world.World, who int) (l [][]byte) {
	for side := range 2 {
		for k := 0; ; k++ {
			b, ok := w.Frame(who, side, k)
			l = append(l, b)
			if !ok {
				break
			}
		}
	}
	return l
}

// others is a script that is the same without those who are not low: but they do less, or more, or something else.
func others(t *testing.T, r *rand.Rand, p api.Policy, label int, l []api.Event) []api.Event {
	t.Helper()
	m := newMaker(t, r, p)
	m.who = slices.DeleteFunc(m.who, func(who int) bool { return slices.Contains(watch.Low(p, label), who) })
	kept, more := []int{500, 900, 990, 999, 1000}[r.Intn(5)], []int{0, 1, 10, 100, 500}[r.Intn(5)]
	for _, e := range l {
		if len(m.who) > 0 && r.Intn(1000) < more {
			m.other()
		}
		x, stays := watch.Stays(p, label, e)
		switch {
		case x == api.Event{Kind: api.ECrash} && len(m.who) > 0 && r.Intn(2) == 0:
			m.do(m.fitting(api.ETorn, m.who[r.Intn(len(m.who))]))
		case stays:
			m.do(x)
		case r.Intn(1000) < kept:
			m.do(e)
		}
	}
	return m.l
}

// other makes something that does not stay.
func (m *maker) other() {
	who := m.who[m.Intn(len(m.who))]
	switch kind := 1 + m.Intn(carries); kind {
	case api.ETick, api.ECrash, api.ECheck, api.ETorn, carries:
		m.carry(who)
	default:
		m.do(m.fitting(kind, who))
	}
}

// tornDown is how many events that stay stand ahead of the first one in which the power went just when something had been let down; most, if there is none. It counts as done where what is done ahead of that event does, but nobody was told of it ahead of the crash.
func tornDown(t *testing.T, p api.Policy, label int, l []api.Event, most int) int {
	t.Helper()
	w := newWorld(t, p)
	before := 0
	for _, e := range l {
		n := len(w.Server().Core().Audits())
		w.Do(e)
		if e.Kind == api.ETorn && len(w.Server().Core().Audits()) > n {
			return before
		}
		if _, ok := watch.Stays(p, label, e); ok {
			before++
		}
	}
	return most
}

// If something is let down, two scripts that are one without those who are not low show the same, up to the first thing that is let down in one of them and not just so, and there, in the other one.
func TestP1Released(t *testing.T) {
	apart, beyond := 0, 0
	for seed := range int64(2 * runs) {
		p := policyOf(seed)
		label := int(seed) % len(p.Labels)
		l := script(t, seed, p, 200)
		k := others(t, rand.New(rand.NewSource(seed)), p, label, l)
		part := watch.Purge(p, label, l)
		if !slices.Equal(part, watch.Purge(p, label, k)) {
			t.Fatalf("%d: they are not one", seed)
		}
		a, b := releases(t, p, label, l), releases(t, p, label, k)
		until := watch.Until(a, b, len(part))
		if until < len(part) {
			apart++
		}
		until = min(until, tornDown(t, p, label, l, until), tornDown(t, p, label, k, until))
		if n := watch.Alike(observe(t, p, label, l), observe(t, p, label, k)); n < until {
			t.Fatalf("%d: at %d alike behind %d of %d events, not %d", seed, label, n, len(part), until)
		}
		if len(a) > 0 && a[0].Before < until {
			beyond++
		}
	}
	if apart == 0 || beyond == 0 {
		t.Error("nothing was let down", apart, beyond)
	}
}
