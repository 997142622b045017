package core

import (
	"fmt"
	"math/rand"
	"reflect"
	"slices"
	"strings"
	"testing"
	"unicode/utf8"

	"sealskin/api"
	"sealskin/audit"
	"sealskin/edit"
	"sealskin/frame"
	"sealskin/lattice"
)

type parts = []api.Part

func drop(n int) api.Part { return api.Part{Kind: api.Drop, N: n} }

func put(s string) api.Part {
	return api.Part{Kind: api.Put, N: utf8.RuneCountInString(s), Text: s}
}

// Labels of four: low, two above it that do not see one another, and one above all.
const (
	low = iota
	left
	right
	high
)

// four is a policy of these, with clients 0 to 3 of each, 4 low, 5 left without the right to let down, 6 high.
func four(q api.Quota) api.Policy {
	return api.Policy{
		Labels: []api.Label{{}, {Level: 1, Comps: 1}, {Level: 1, Comps: 2}, {Level: 2, Comps: 3}},
		Quotas: []api.Quota{q, q, q, q},
		Entries: []api.Entry{
			{Label: low, Secret: "a", Down: true}, {Label: left, Secret: "b", Down: true}, {Label: right, Secret: "c", Down: true}, {Label: high, Secret: "d", Down: true},
			{Label: low, Secret: "e"}, {Label: left, Secret: "f"}, {Label: high, Secret: "g", Down: true},
		},
	}
}

func ample() api.Quota { return api.Quota{Chars: api.MaxQuota, Ops: api.MaxQuota, Seats: 1} }

func fresh(t *testing.T, p api.Policy) *Core {
	t.Helper()
	c, bad := New(p)
	if c == nil || bad != api.OK {
		t.Fatal(c, bad)
	}
	return c
}

// model is a document by the chapter's words, as plain lists; steps are found by holding what was seen against what is.
type model struct {
	p       api.Policy
	elems   []api.Elem
	steps   map[int][]api.Step
	sizes   map[int][]int // by label and revision
	ops     map[int]int
	last    map[int]int
	commits int
	audits  []api.Audit
}

func newModel(p api.Policy) *model {
	m := &model{p: p, steps: map[int][]api.Step{}, sizes: map[int][]int{}, ops: map[int]int{}, last: map[int]int{}}
	for i := range p.Labels {
		m.sizes[i] = []int{0}
	}
	return m
}

func (m *model) sees(view, label int) bool {
	return lattice.Below(m.p.Labels[label], m.p.Labels[view])
}

func (m *model) seen(l []api.Elem, view int) []api.Elem {
	var out []api.Elem
	for _, x := range l {
		if m.sees(view, x.Label) {
			out = append(out, x)
		}
	}
	return out
}

func textOf(l []api.Elem) string {
	var b strings.Builder
	for _, x := range l {
		b.WriteRune(x.Rune)
	}
	return b.String()
}

func (m *model) chars(label int) int {
	n := 0
	for _, x := range m.elems {
		if x.Label == label {
			n++
		}
	}
	return n
}

// unrolled is what an edit puts ahead of each place, and which code points it drops.
func unrolled(e parts) (puts map[int]string, drops map[int]int) {
	puts, drops = map[int]string{}, map[int]int{}
	at := 0
	for _, p := range e {
		switch p.Kind {
		case api.Put:
			puts[at] += p.Text
		case api.Keep:
			at += p.N
		case api.Drop:
			for range p.N {
				drops[at] = 1
				at++
			}
		}
	}
	return puts, drops
}

func isSmall(e parts) bool {
	puts, chars, drops := 0, 0, 0
	for _, p := range e {
		switch p.Kind {
		case api.Put:
			puts++
			chars += utf8.RuneCountInString(p.Text)
		case api.Drop:
			drops += p.N
		}
	}
	_, _, bad := edit.Size(e)
	return bad == api.OK && puts <= 64 && chars <= 256 && drops <= 128
}

func (m *model) Edit(who, seq, base int, e parts) (api.Record, api.Errno) {
	var none api.Record
	if who < 0 || who >= len(m.p.Entries) {
		return none, api.ErrArg
	}
	label := m.p.Entries[who].Label
	if seq != m.last[who]+1 {
		return none, api.ErrGap
	}
	if base < 0 || base > len(m.steps[label]) {
		return none, api.ErrStale
	}
	if edit.Check(e, m.sizes[label][base]) != api.OK || !isSmall(e) {
		return none, api.ErrEdit
	}
	for _, s := range m.steps[label][base:] {
		e, _, _ = edit.Transform(e, s.Edit)
	}
	puts, drops := unrolled(e)
	seen := m.seen(m.elems, label)
	for at := range drops {
		if seen[at].Label != label {
			return none, api.ErrWrite
		}
	}
	n := m.chars(label) - len(drops)
	for _, s := range puts {
		n += utf8.RuneCountInString(s)
	}
	if n > m.p.Quotas[label].Chars || m.ops[label] >= m.p.Quotas[label].Ops {
		return none, api.ErrQuota
	}
	return api.Record{Kind: api.REdit, Who: who, Seq: seq, Edit: e}, api.OK
}

func (m *model) Down(who, seq, base, at, n, target int) (api.Record, api.Errno) {
	var none api.Record
	if who < 0 || who >= len(m.p.Entries) {
		return none, api.ErrArg
	}
	label := m.p.Entries[who].Label
	if seq != m.last[who]+1 {
		return none, api.ErrGap
	}
	if base != len(m.steps[label]) {
		return none, api.ErrStale
	}
	if !m.p.Entries[who].Down || target < 0 || target >= len(m.p.Labels) || target == label || !m.sees(label, target) {
		return none, api.ErrRight
	}
	seen := m.seen(m.elems, label)
	if n < 1 || n > 128 || at < 0 || at > len(seen) || n > len(seen)-at {
		return none, api.ErrArg
	}
	for _, x := range seen[at : at+n] {
		if x.Label != label {
			return none, api.ErrWrite
		}
	}
	if m.chars(target)+n > m.p.Quotas[target].Chars || m.ops[label] >= m.p.Quotas[label].Ops {
		return none, api.ErrQuota
	}
	return api.Record{Kind: api.RDown, Who: who, Seq: seq, At: at, N: n, Target: target}, api.OK
}

// commit commits a record that was answered just now.
func (m *model) commit(r api.Record) {
	own := m.p.Entries[r.Who].Label
	m.commits++
	where, after := own, m.elems
	if r.Kind == api.REdit {
		after = m.edited(own, r.Edit)
	} else {
		where, after = r.Target, m.lowered(own, r)
	}
	for view := range m.p.Labels {
		if !m.sees(view, where) {
			continue
		}
		s := api.Step{Edit: between(m.seen(m.elems, view), m.seen(after, view)), Who: r.Who}
		if m.sees(view, own) {
			s.Seq = r.Seq
		}
		m.steps[view] = append(m.steps[view], s)
		m.sizes[view] = append(m.sizes[view], len(m.seen(after, view)))
	}
	m.elems = after
	m.ops[own]++
	m.last[r.Who] = r.Seq
}

func (m *model) edited(label int, e parts) []api.Elem {
	puts, drops := unrolled(e)
	id, at := 1024*m.commits, 0
	var after []api.Elem
	come := func() {
		for _, r := range puts[at] {
			after = append(after, api.Elem{ID: id, Rune: r, Label: label})
			id++
		}
	}
	come()
	for _, x := range m.elems {
		if !m.sees(label, x.Label) {
			after = append(after, x)
			continue
		}
		if drops[at] == 0 {
			after = append(after, x)
		}
		at++
		come()
	}
	return after
}

func (m *model) lowered(own int, r api.Record) []api.Elem {
	after := slices.Clone(m.elems)
	a := api.Audit{Who: r.Who, Target: r.Target, Commit: m.commits}
	at := 0
	for i, x := range m.elems {
		if m.sees(own, x.Label) {
			if r.At <= at && at < r.At+r.N {
				if at == r.At {
					a.At = len(m.seen(m.elems[:i], r.Target))
				}
				after[i].Label = r.Target
				a.Text += string(x.Rune)
			}
			at++
		}
	}
	m.audits = append(m.audits, a)
	return after
}

// between is the edit that leads from code points to others, by their numbers: what is in both stands in one order.
func between(was, is []api.Elem) parts {
	stays := map[int]int{}
	for _, x := range is {
		stays[x.ID] = 1
	}
	var e parts
	for len(was) > 0 || len(is) > 0 {
		switch {
		case len(was) > 0 && stays[was[0].ID] == 0:
			e, was = append(e, drop(1)), was[1:]
		case len(was) > 0 && len(is) > 0 && was[0].ID == is[0].ID:
			e, was, is = append(e, keep(1)), was[1:], is[1:]
		default:
			e, is = append(e, put(string(is[0].Rune))), is[1:]
		}
	}
	return edit.Norm(e...)
}

// stepsOf is all steps of a label.
func stepsOf(c *Core, label int) []api.Step {
	var l []api.Step
	for {
		s, ok := c.Step(label, len(l))
		if !ok {
			return l
		}
		l = append(l, s)
	}
}

func sameSteps(a, b []api.Step) bool {
	return slices.EqualFunc(a, b, func(x, y api.Step) bool {
		return x.Who == y.Who && x.Seq == y.Seq && slices.Equal(x.Edit, y.Edit)
	})
}

// holds holds a document against the model.
func holds(t *testing.T, c *Core, m *model) {
	t.Helper()
	if !slices.Equal(c.Elems(), m.elems) || c.Commits() != m.commits || !slices.Equal(c.Audits(), m.audits) {
		t.Fatalf("%v, %d, %v; want %v, %d, %v", c.Elems(), c.Commits(), c.Audits(), m.elems, m.commits, m.audits)
	}
	for who := range m.p.Entries {
		if c.Last(who) != m.last[who] {
			t.Fatalf("Last(%d): %d", who, c.Last(who))
		}
	}
	for view := range m.p.Labels {
		seen := m.seen(m.elems, view)
		chars, ops := c.Count(view)
		if !slices.Equal(c.Seen(view), seen) || c.Text(view) != textOf(seen) || c.Size(view) != len(seen) || chars != m.chars(view) || ops != m.ops[view] {
			t.Fatalf("at %d: %q, %d, %d, %d", view, c.Text(view), c.Size(view), chars, ops)
		}
		if c.Rev(view) != len(m.steps[view]) || !sameSteps(stepsOf(c, view), m.steps[view]) {
			t.Fatalf("at %d: %v; want %v", view, stepsOf(c, view), m.steps[view])
		}
	}
	holdsLog(t, c, m)
}

func holdsLog(t *testing.T, c *Core, m *model) {
	t.Helper()
	g := audit.New()
	for _, a := range m.audits {
		g.Add(Entry(a))
	}
	if want, _ := g.Root(len(m.audits)); c.Root() != want {
		t.Fatal("another root")
	}
	for i, a := range m.audits {
		p, bad := c.Prove(i)
		if bad != api.OK || audit.Proves(Entry(a), i, len(m.audits), p, c.Root()) != api.OK {
			t.Fatalf("what was let down as number %d is not proved: %d", i, bad)
		}
	}
}

// told is all that a document tells, as a text.
func told(c *Core) string {
	var b strings.Builder
	p := c.Policy()
	fmt.Fprintln(&b, p, c.Elems(), c.Commits(), c.Audits(), c.Root())
	for view := -1; view <= len(p.Labels); view++ {
		chars, ops := c.Count(view)
		fmt.Fprintln(&b, c.Rev(view), c.Text(view), c.Size(view), c.Seen(view), chars, ops, stepsOf(c, view))
	}
	for i := -1; i <= len(p.Entries); i++ {
		fmt.Fprintln(&b, c.Last(i))
	}
	for i := range c.Audits() {
		p, bad := c.Prove(i)
		fmt.Fprintln(&b, p, bad)
	}
	return b.String()
}

// maker does things by chance, always the same.
type maker struct{ *rand.Rand }

func (k maker) text(most int) string {
	l := []rune{'a', 'b', 'c', 'é', '𝄞', '\n', 0, 0xfffd}
	var b strings.Builder
	for range 1 + k.Intn(most) {
		b.WriteRune(l[k.Intn(len(l))])
	}
	return b.String()
}

// edit is one of n code points; those that are not its own (if own is told) it mostly leaves alone.
func (k maker) edit(n int, own func(at int) bool) parts {
	var l parts
	for at := range n {
		if k.Intn(8) == 0 {
			l = append(l, put(k.text(3)))
		}
		l = append(l, keep(1))
		if k.Intn(5) == 0 && (own == nil || own(at) || k.Intn(200) == 0) {
			l[len(l)-1] = drop(1)
		}
	}
	if k.Intn(3) == 0 {
		l = append(l, put(k.text(3)))
	}
	return edit.Norm(l...)
}

// askEdit is an edit that a client may ask for, mostly of what it sees now or a little ago.
func (k maker) askEdit(c *Core, m *model) (who, seq, base int, e parts) {
	who = k.Intn(len(m.p.Entries))
	label := m.p.Entries[who].Label
	seq, base = m.last[who]+1, len(m.steps[label])
	var own func(int) bool
	if k.Intn(2) == 0 {
		base = max(base-k.Intn(5), 0)
	} else {
		seen := c.Seen(label)
		own = func(at int) bool { return seen[at].Label == label }
	}
	e = k.edit(m.sizes[label][base], own)
	if k.Intn(20) == 0 {
		who, seq, base = who+k.Intn(9)-4, seq+k.Intn(3)-1, base+k.Intn(3)-1
	}
	return who, seq, base, e
}

func (k maker) askDown(c *Core, m *model) (who, seq, base, at, n, target int) {
	who = k.Intn(len(m.p.Entries))
	label := m.p.Entries[who].Label
	seq, base = m.last[who]+1, len(m.steps[label])
	target = k.Intn(len(m.p.Labels))
	if l := lattice.Seen(m.p, label); k.Intn(4) > 0 {
		target = l[k.Intn(len(l))]
	}
	seen := c.Seen(label)
	at, n = k.Intn(len(seen)+1), k.Intn(4)
	for i := range seen { // mostly a stretch of its own
		if i >= at && seen[i].Label == label && k.Intn(3) > 0 {
			at = i
			break
		}
	}
	if k.Intn(20) == 0 {
		who, seq, base = who+k.Intn(9)-4, seq+k.Intn(3)-1, base+k.Intn(3)-1
	}
	return who, seq, base, at, n, target
}

// ask asks both for something, by chance, and commits it, if it is not refused.
func (k maker) ask(t *testing.T, c *Core, m *model) (api.Record, api.Errno) {
	t.Helper()
	var r, want api.Record
	var bad, wantBad api.Errno
	if k.Intn(4) > 0 {
		who, seq, base, e := k.askEdit(c, m)
		r, bad = c.Edit(who, seq, base, e)
		want, wantBad = m.Edit(who, seq, base, e)
	} else {
		who, seq, base, at, n, target := k.askDown(c, m)
		r, bad = c.Down(who, seq, base, at, n, target)
		want, wantBad = m.Down(who, seq, base, at, n, target)
	}
	if bad != wantBad || !sameRecord(r, want) {
		t.Fatalf("%v, %d; want %v, %d", r, bad, want, wantBad)
	}
	if bad == api.OK {
		if bad := c.Apply(r); bad != api.OK {
			t.Fatalf("%v can't be committed: %d", r, bad)
		}
		m.commit(r)
	}
	return r, bad
}

func sameRecord(a, b api.Record) bool {
	if !slices.Equal(a.Edit, b.Edit) {
		return false
	}
	a.Edit, b.Edit = nil, nil
	return reflect.DeepEqual(a, b)
}

func policies() []api.Policy {
	uneven := four(ample())
	uneven.Quotas = []api.Quota{{Chars: 30, Ops: 12}, {Chars: 9, Ops: 20}, {Chars: 40, Ops: 7}, {Chars: 12, Ops: 100}}
	return []api.Policy{four(ample()), four(api.Quota{Chars: 20, Ops: 15}), uneven, wide()}
}

// wide is a policy of all labels that there may be, and all clients.
func wide() api.Policy {
	var p api.Policy
	for i := range api.MaxLabels {
		p.Labels = append(p.Labels, api.Label{Level: i % 8, Comps: uint32(i / 8)})
		p.Quotas = append(p.Quotas, ample())
	}
	for i := range api.MaxClients {
		p.Entries = append(p.Entries, api.Entry{Label: (13*i + 31) % 32, Secret: "s", Down: true})
	}
	return p
}

// scripts plays many scripts by chance; behind each step all that may be asked of it is asked.
func scripts(t *testing.T, seed int64, times, steps int, behind func(c *Core, m *model, was []api.Elem, r api.Record, bad api.Errno)) {
	t.Helper()
	k := maker{rand.New(rand.NewSource(seed))}
	for i := range times {
		l := policies()
		p := l[i%len(l)]
		c, m := fresh(t, p), newModel(p)
		for range steps {
			was := m.elems
			r, bad := k.ask(t, c, m)
			behind(c, m, was, r, bad)
		}
	}
}

func TestP161ToP164Many(t *testing.T) {
	counts := map[api.Errno]int{}
	downs := 0
	scripts(t, 1, 120, 60, func(c *Core, m *model, _ []api.Elem, r api.Record, bad api.Errno) {
		counts[bad]++
		if r.Kind == api.RDown {
			downs++
		}
		holds(t, c, m)
	})
	for _, e := range []api.Errno{api.OK, api.ErrArg, api.ErrGap, api.ErrStale, api.ErrEdit, api.ErrWrite, api.ErrQuota, api.ErrRight} {
		if counts[e] < 10 {
			t.Errorf("error %d came %d times", e, counts[e])
		}
	}
	if downs < 100 {
		t.Errorf("%d were let down", downs)
	}
}

func TestP167Histories(t *testing.T) {
	scripts(t, 2, 60, 60, func(c *Core, m *model, _ []api.Elem, _ api.Record, bad api.Errno) {
		if bad != api.OK || m.commits%7 > 0 {
			return
		}
		for view := range m.p.Labels {
			s := ""
			for i, x := range stepsOf(c, view) {
				to, bad := edit.Apply(x.Edit, s)
				if bad != api.OK {
					t.Fatalf("step %d at %d does not fit: %d", i, view, bad)
				}
				s = to
			}
			if s != c.Text(view) {
				t.Fatalf("at %d: %q, not %q", view, s, c.Text(view))
			}
		}
	})
}

func TestP168Order(t *testing.T) {
	gone := map[*Core]map[int]int{}
	scripts(t, 3, 60, 60, func(c *Core, m *model, was []api.Elem, _ api.Record, _ api.Errno) {
		if gone[c] == nil {
			gone[c] = map[int]int{}
		}
		is := map[int]int{}
		for i, x := range c.Elems() {
			if is[x.ID] > 0 || gone[c][x.ID] > 0 {
				t.Fatalf("the number %d comes twice, or comes back", x.ID)
			}
			is[x.ID] = i + 1
		}
		last := 0
		for _, x := range was {
			if at := is[x.ID]; at == 0 {
				gone[c][x.ID] = 1
			} else if at < last {
				t.Fatal("the order changed")
			} else {
				last = at
			}
		}
		for view := range m.p.Labels { // what a label sees stands there as in the whole
			last = 0
			for _, x := range c.Seen(view) {
				if is[x.ID] <= last {
					t.Fatalf("at %d the order is another one", view)
				}
				last = is[x.ID]
			}
		}
	})
}

func TestP169Own(t *testing.T) {
	scripts(t, 4, 60, 60, func(c *Core, m *model, was []api.Elem, r api.Record, bad api.Errno) {
		if bad != api.OK {
			return
		}
		own, is, before := m.p.Entries[r.Who].Label, map[int]api.Elem{}, map[int]int{}
		for _, x := range c.Elems() {
			is[x.ID] = x
		}
		for _, x := range was {
			before[x.ID] = 1
			now, ok := is[x.ID]
			switch {
			case !ok && (x.Label != own || r.Kind != api.REdit):
				t.Fatalf("%v is dropped by a client of %d", x, own)
			case ok && now != x && (r.Kind != api.RDown || x.Label != own || now != api.Elem{ID: x.ID, Rune: x.Rune, Label: r.Target}):
				t.Fatalf("%v is now %v, by a client of %d", x, now, own)
			}
		}
		for id, x := range is {
			if before[id] == 0 && (x.Label != own || r.Kind != api.REdit) {
				t.Fatalf("%v is put by a client of %d", x, own)
			}
		}
	})
}

func TestP1610Quotas(t *testing.T) {
	scripts(t, 5, 60, 80, func(c *Core, m *model, _ []api.Elem, _ api.Record, _ api.Errno) {
		for label, q := range m.p.Quotas {
			if chars, ops := c.Count(label); chars > q.Chars || ops > q.Ops {
				t.Fatalf("%d has %d code points, %d commits", label, chars, ops)
			}
		}
	})
}

func TestP1611LetDown(t *testing.T) {
	scripts(t, 6, 60, 60, func(c *Core, m *model, was []api.Elem, r api.Record, bad api.Errno) {
		if bad != api.OK || r.Kind != api.RDown {
			return
		}
		l := c.Audits()
		a := l[len(l)-1]
		text := textOf(m.seen(was, m.p.Entries[r.Who].Label)[r.At : r.At+r.N])
		if a.Text != text || a.Who != r.Who || a.Target != r.Target || a.Commit != c.Commits() {
			t.Fatalf("%v, of %q", a, text)
		}
		seen := []rune(c.Text(r.Target)) // at the target its code points stand side by side
		if string(seen[a.At:a.At+r.N]) != text || string(slices.Delete(seen, a.At, a.At+r.N)) != textOf(m.seen(was, r.Target)) {
			t.Fatalf("%v: %q", a, c.Text(r.Target))
		}
		if p, bad := c.Prove(len(l) - 1); bad != api.OK || audit.Proves(Entry(a), len(l)-1, len(l), p, c.Root()) != api.OK {
			t.Fatal(bad)
		}
	})
}

func TestP1612Light(t *testing.T) {
	scripts(t, 7, 40, 60, func(c *Core, m *model, _ []api.Elem, _ api.Record, bad api.Errno) {
		for view := range m.p.Labels {
			if s, ok := c.Step(view, c.Rev(view)-1); ok && !frame.Light(s.Edit) {
				t.Fatalf("at %d: %v", view, s)
			}
		}
	})
}

func TestP1613Again(t *testing.T) {
	again := map[*Core]*Core{}
	scripts(t, 8, 60, 60, func(c *Core, m *model, _ []api.Elem, r api.Record, bad api.Errno) {
		if again[c] == nil {
			again[c] = fresh(t, m.p)
		}
		if bad == api.OK {
			r, bad = Get(Put(r))
			if bad != api.OK || again[c].Apply(r) != api.OK {
				t.Fatal(bad)
			}
		}
		if m.commits%5 == 0 && told(c) != told(again[c]) {
			t.Fatal("they tell otherwise")
		}
	})
}

func TestP1614Refused(t *testing.T) {
	k := maker{rand.New(rand.NewSource(9))}
	refused := 0
	for i := range 40 {
		p := policies()[i%3]
		c, m := fresh(t, p), newModel(p)
		for range 60 {
			was := told(c)
			who, seq, base, e := k.askEdit(c, m)
			_, bad := c.Edit(who, seq, base, e)
			r := api.Record{Kind: k.Intn(4), Who: who, Seq: seq, Edit: e, At: k.Intn(2), N: k.Intn(2), Target: k.Intn(3) - 1}
			if _, wantBad := m.Edit(who, seq, base, e); bad != wantBad || told(c) != was {
				t.Fatal("to ask changes something")
			}
			if k.isNext(m, r) {
				continue
			}
			refused++
			if bad := c.Apply(r); bad != api.ErrJournal || told(c) != was {
				t.Fatalf("%v: %d", r, bad)
			}
			k.ask(t, c, m)
		}
	}
	if refused < 500 {
		t.Error(refused)
	}
}

// isNext tells whether a record may be committed, by the chapter's words.
func (maker) isNext(m *model, r api.Record) bool {
	if r.Who < 0 || r.Who >= len(m.p.Entries) {
		return false
	}
	bad := api.ErrJournal
	rev := len(m.steps[m.p.Entries[r.Who].Label])
	if r.Kind == api.REdit && r.At == 0 && r.N == 0 && r.Target == 0 {
		_, bad = m.Edit(r.Who, r.Seq, rev, r.Edit)
	}
	if r.Kind == api.RDown && len(r.Edit) == 0 {
		_, bad = m.Down(r.Who, r.Seq, rev, r.At, r.N, r.Target)
	}
	return bad == api.OK
}
