package server

import (
	"bytes"
	"fmt"
	"math"
	"slices"
	"strings"
	"testing"

	"sealskin/api"
	"sealskin/core"
	"sealskin/disk"
	"sealskin/edit"
	"sealskin/frame"
	"sealskin/journal"
	"sealskin/lattice"
)

func fails(t *testing.T, what string, got, want api.Errno) {
	t.Helper()
	if got != want {
		t.Errorf("%s: %d, not %d", what, got, want)
	}
}

func is(t *testing.T, s *Server, who, conn int, open bool, told int) {
	t.Helper()
	if c, o, r := s.State(who); c != conn || o != open || r != told {
		t.Errorf("client %d: connection %d, open %v, told %d", who, c, o, r)
	}
}

func tick(t *testing.T, s *Server, n int) {
	t.Helper()
	for range n {
		fails(t, "tick", s.Tick(), api.OK)
	}
}

func TestP191Open(t *testing.T) {
	s := open(t, newDisk(t), house())
	for _, who := range []int{-1, 0, 4, 5, math.MinInt, math.MaxInt} {
		is(t, s, who, 0, false, 0)
		if s.Locked(who) != 0 || len(s.Out(who)) != 0 {
			t.Error(who)
		}
	}
	if c := s.Core(); c == nil || c != s.Core() || c.Commits() != 0 {
		t.Error(c)
	}
}

func TestP191OpenErrors(t *testing.T) {
	wrong := house()
	wrong.Entries[1].Label = 4
	down := newDisk(t)
	down.Crash()
	small, _ := disk.New(1)
	for _, x := range []struct {
		d    *disk.Disk
		p    api.Policy
		want api.Errno
	}{
		{newDisk(t), wrong, api.ErrPolicy}, {newDisk(t), api.Policy{}, api.ErrPolicy}, {nil, wrong, api.ErrPolicy}, {down, wrong, api.ErrPolicy},
		{nil, house(), api.ErrNil}, {&disk.Disk{}, house(), api.ErrNil}, {down, house(), api.ErrDown}, {small, house(), api.ErrFull},
	} {
		if s, bad := Open(x.d, x.p); s != nil || bad != x.want {
			t.Errorf("%v, %d, not %d", s, bad, x.want)
		}
	}
	if lattice.Right(wrong) != api.ErrPolicy {
		t.Error("the policy may be")
	}
}

// written is a disk with records, by their labels.
func written(t *testing.T, l ...entry) *disk.Disk {
	t.Helper()
	d := newDisk(t)
	j, bad := journal.Open(d)
	if bad != api.OK {
		t.Fatal(bad)
	}
	for _, x := range l {
		if bad := j.Put(x.label, x.b); bad != api.OK {
			t.Fatal(bad)
		}
	}
	return d
}

type entry struct {
	label int
	b     []byte
}

func entryOf(label int, r api.Record) entry { return entry{label, core.Put(r)} }

func login(label, who, conn int) entry {
	return entryOf(label, api.Record{Kind: api.RLogin, Who: who, Seq: conn})
}

func put(label, who, seq, size int, text string) entry {
	e, _ := edit.Replace(size, 0, 0, text)
	return entryOf(label, api.Record{Kind: api.REdit, Who: who, Seq: seq, Edit: e})
}

func TestP191Records(t *testing.T) {
	lower := entryOf(high, api.Record{Kind: api.RDown, Who: 2, Seq: 2, N: 1, Target: low})
	good := []entry{login(low, 0, 3), put(low, 0, 1, 0, "ab"), login(high, 2, 1<<40), put(high, 2, 1, 2, "X"), login(low, 0, 4), lower, login(low, 1, 1)}
	s := open(t, written(t, good...), house())
	is(t, s, 0, 4, false, 0)
	is(t, s, 1, 1, false, 0)
	is(t, s, 2, 1<<40, false, 0)
	is(t, s, 3, 0, false, 0)
	if c := s.Core(); c.Text(low) != "Xab" || c.Text(top) != "Xab" || c.Commits() != 3 || c.Last(2) != 2 || len(c.Audits()) != 1 {
		t.Error(c.Text(low), c.Commits())
	}
	whole := core.Put(api.Record{Kind: api.RLogin, Who: 1, Seq: 2})
	for i, x := range [][]entry{
		{{low, nil}}, {{low, whole[:len(whole)-1]}}, {{low, append(whole, 0)}}, // no record
		{login(low, 5, 1)}, {login(low, 8, 1)}, // of no client
		{login(high, 0, 1)}, {login(low, 2, 1)}, {login(31, 0, 1)}, {put(high, 0, 1, 0, "a")}, {put(low, 2, 1, 0, "a")}, // of another label
		{login(low, 0, 0)}, {login(low, 0, 1<<40+1)}, {login(low, 0, 3), login(low, 0, 3)}, {login(low, 0, 3), login(low, 0, 2)}, // no new connection
		{put(low, 0, 2, 0, "a")}, {put(low, 0, 1, 1, "a")}, {put(low, 0, 1, 0, "a"), put(low, 0, 1, 1, "a")}, {put(low, 1, 1, 0, "a"), put(low, 0, 1, 0, "a")}, // not the next commit
		{put(high, 2, 1, 0, "X"), lower, lower}, {lower}, // nothing to be let down
		{entryOf(low, api.Record{Kind: 0, Seq: 1})}, {entryOf(low, api.Record{Kind: 4, Seq: 1})}, // of no kind
	} {
		if s, bad := Open(written(t, x...), house()); s != nil || bad != api.ErrJournal {
			t.Errorf("%d: %v, %d", i, s, bad)
		}
		if s, bad := Open(written(t, append(slices.Clone(good[:1]), x...)...), house()); s != nil || bad != api.ErrJournal {
			t.Errorf("%d behind another one: %v, %d", i, s, bad)
		}
	}
	if s, bad := Open(written(t, good[0], entry{low, nil}, good[1]), house()); s != nil || bad != api.ErrJournal {
		t.Error("one in the midst", s, bad)
	}
}

func TestP191Memory(t *testing.T) {
	p := house()
	s := open(t, newDisk(t), p)
	p.Entries[0].Secret, p.Entries[2].Label, p.Quotas[0].Seats, p.Labels[1].Comps = "x", 0, 0, 0
	comes(t, s, 0, 1)
	g := visit(t, s, 0, 1)
	b := g.frames()
	if len(b) != 0 || s.labelOf(2) != high {
		t.Error(len(b))
	}
}

// The document that is asked for goes on with the server.
func TestP191Core(t *testing.T) {
	s := open(t, newDisk(t), house())
	c := s.Core()
	g := comes(t, s, 0, 1)
	g.says(g.wants(0, 0, "ab"))
	if c.Text(low) != "ab" || s.Core() != c {
		t.Error(c.Text(low))
	}
}

func TestP192Errors(t *testing.T) {
	p := house()
	s := open(t, written(t, login(low, 1, 5)), p)
	g := comes(t, s, 0, 3)
	wrap := func(secret string, who, conn, seq int) []byte {
		f := api.Frame{Conn: conn, Seq: seq}
		if seq > 0 {
			f.Body = []byte{1}
		}
		b, bad := frame.Wrap(frame.Key(secret, who, conn), true, f)
		if bad != api.OK {
			t.Fatal(bad)
		}
		return b
	}
	other, _ := frame.Wrap(g.key, false, api.Frame{Conn: 3, Seq: 3, Body: []byte{1}})
	broken := wrap("a", 0, 3, 3)
	broken[len(broken)-1] ^= 1
	for i, x := range []struct {
		who  int
		b    []byte
		want api.Errno
	}{
		{-1, nil, api.ErrArg}, {5, wrap("a", 0, 3, 3), api.ErrArg}, {math.MaxInt, nil, api.ErrArg}, {math.MinInt, nil, api.ErrArg},
		{0, nil, api.ErrForm}, {0, []byte{1}, api.ErrForm}, {0, make([]byte, 40), api.ErrForm}, {0, wrap("a", 0, 3, 3)[:39], api.ErrForm}, {0, make([]byte, 1<<16), api.ErrForm},
		{0, wrap("a", 0, 2, 1), api.ErrConn}, {0, wrap("x", 0, 1, 1), api.ErrConn}, {1, wrap("b", 1, 4, 1), api.ErrConn},
		{1, wrap("b", 1, 5, 1), api.ErrShut}, {1, wrap("x", 1, 5, 1), api.ErrShut}, {1, wrap("b", 1, 5, 0), api.ErrShut},
		{0, wrap("x", 0, 3, 3), api.ErrKey}, {0, other, api.ErrKey}, {0, broken, api.ErrKey}, {0, wrap("a", 1, 3, 3), api.ErrKey},
		{0, wrap("a", 0, 4, 0), api.ErrConn}, {0, wrap("a", 0, 4, 2), api.ErrConn}, {0, wrap("a", 0, 1<<40, 1<<40), api.ErrConn}, {2, wrap("c", 2, 1, 2), api.ErrConn},
	} {
		ahead, used := look(s), s.journal.Len()
		fails(t, fmt.Sprint(i), s.Take(x.who, x.b), x.want)
		if look(s) != ahead || s.journal.Len() != used || len(s.Out(0)) != 0 {
			t.Errorf("%d: something has changed", i)
		}
	}
	hearsThat(t, "it goes on", g.says(g.wants(0, 0, "a")), "step 1 of 0.1")
}

func TestP192Wrong(t *testing.T) {
	s := open(t, newDisk(t), house())
	g := comes(t, s, 0, 1)
	wrong := func(conn int) []byte {
		b, _ := frame.Wrap(frame.Key("x", 0, conn), true, api.Frame{Conn: conn, Seq: 1, Body: []byte{1}})
		return b
	}
	for range 5 {
		fails(t, "of the connection that there is", s.Take(0, wrong(1)), api.ErrKey)
	}
	fails(t, "the first", s.Take(0, wrong(2)), api.ErrKey)
	fails(t, "the second", s.Take(0, wrong(7)), api.ErrKey)
	if s.Locked(0) != 0 {
		t.Error("it is locked", s.Locked(0))
	}
	// A connection that begins lets none have gone wrong.
	g = comes(t, s, 0, 2)
	for range 3 {
		if s.Locked(0) != 0 {
			t.Error("it is locked", s.Locked(0))
		}
		fails(t, "wrong", s.Take(0, wrong(3)), api.ErrKey)
	}
	if s.Locked(0) != 20 || s.Locked(1) != 0 {
		t.Error(s.Locked(0), s.Locked(1))
	}
	is(t, s, 0, 2, true, 0)
	fails(t, "locked", s.Take(0, wrong(3)), api.ErrLocked)
	h := visit(t, s, 0, 3)
	h.put(api.Msg{Kind: api.MLogin})
	b := h.frames()[0]
	fails(t, "locked, the right one", s.Take(0, b), api.ErrLocked)
	hearsThat(t, "the one that there is goes on", g.says(g.wants(0, 0, "a")), "step 1 of 0.1")
	for range 19 {
		tick(t, s, 1)
		fails(t, "still locked", s.Take(0, b), api.ErrLocked)
	}
	tick(t, s, 1)
	fails(t, "no more", s.Take(0, b), api.OK)
	hearsThat(t, "it comes in", h.hears(), "hello 1 1, step 1 of 0.1")
}

func TestP192Begins(t *testing.T) {
	d := newDisk(t)
	s := open(t, d, house())
	g, h := comes(t, s, 0, 1), comes(t, s, 1, 1)
	g.says(g.wants(0, 0, "ab"), points(0, 0))
	hearsThat(t, "of the other one", h.hears(), "step 1 of 0.1, peer 0 at 1.0")
	is(t, s, 0, 1, true, 1)
	n := s.journal.Len()
	// The first frame begins it, whatever its body is: no session yet.
	b, _ := frame.Wrap(frame.Key("a", 0, 9), true, api.Frame{Conn: 9, Seq: 1, Body: []byte{1}})
	fails(t, "begins", s.Take(0, b), api.OK)
	is(t, s, 0, 9, false, 0)
	label, x, _ := s.journal.At(n)
	if s.journal.Len() != n+1 || label != low || !bytes.Equal(x, core.Put(api.Record{Kind: api.RLogin, Seq: 9})) {
		t.Errorf("%d records, the last one of %d: %x", s.journal.Len(), label, x)
	}
	if l := s.Out(0); len(l) != 1 || len(l[0]) != 40 {
		t.Error("it is told something", len(l))
	}
	fails(t, "the same once more", s.Take(0, b), api.OK)
	if s.journal.Len() != n+1 {
		t.Error("it began twice")
	}
	g.put(points(1, 1))
	fails(t, "the old one is over", s.Take(0, g.frames()[0]), api.ErrConn)
	// Its mark is no more: who comes in is not told of it.
	hearsThat(t, "without a mark", visit(t, s, 2, 1).says(api.Msg{Kind: api.MLogin, Rev: 1}), "hello 1 0")
	s = open(t, d, house())
	is(t, s, 0, 9, false, 0)
}

func TestP192BeginsFull(t *testing.T) {
	room := 0
	for {
		d, _ := disk.New(room + 1)
		if _, bad := Open(d, house()); bad == api.OK {
			break
		}
		room++
	}
	d, _ := disk.New(room + 1)
	s := open(t, d, house())
	ahead := look(s)
	g := visit(t, s, 0, 1)
	g.put(api.Msg{Kind: api.MLogin})
	b := g.frames()[0]
	fails(t, "full", s.Take(0, b), api.ErrFull)
	fails(t, "full again", s.Take(0, b), api.ErrFull)
	if look(s) != ahead || len(s.Out(0)) != 0 {
		t.Error("something has changed")
	}
}

func TestP192Login(t *testing.T) {
	p := house()
	p.Quotas[low].Seats = 1
	s := open(t, newDisk(t), p)
	g, h := visit(t, s, 0, 1), visit(t, s, 1, 1)
	hearsThat(t, "stale", g.says(api.Msg{Kind: api.MLogin, Rev: 1}), "bye 151")
	hearsThat(t, "far beyond", g.says(api.Msg{Kind: api.MLogin, Rev: 1 << 40}), "bye 151")
	is(t, s, 0, 1, false, 0)
	hearsThat(t, "on the same connection", g.says(api.Msg{Kind: api.MLogin}), "hello 0 0")
	is(t, s, 0, 1, true, 0)
	hearsThat(t, "no seat", h.says(api.Msg{Kind: api.MLogin}), "bye 171")
	hearsThat(t, "no seat, and stale", h.says(api.Msg{Kind: api.MLogin, Rev: 1}), "bye 151")
	g.says(g.wants(0, 0, "a"))
	g.says(g.wants(0, 0, "b"))
	g.says(g.wants(0, 0, "c"), api.Msg{Kind: api.MBye})
	hearsThat(t, "a seat", h.says(api.Msg{Kind: api.MLogin, Rev: 1}), "hello 3 0, step 2 of 0.2, step 3 of 0.3")
	is(t, s, 1, 1, true, 3)
	h.says(api.Msg{Kind: api.MBye})
	hearsThat(t, "all steps", g.says(api.Msg{Kind: api.MLogin, Rev: 3}), "hello 3 3")
	is(t, s, 0, 1, true, 3)
	hearsThat(t, "a login of one that is in", g.says(api.Msg{Kind: api.MLogin}), "")
	is(t, s, 0, 1, true, 3)
}

// Without a session a login alone says something.
func TestP192Outside(t *testing.T) {
	s := open(t, newDisk(t), house())
	in := comes(t, s, 1, 1)
	g := visit(t, s, 0, 1)
	g.says(api.Msg{Kind: api.MBeat})
	is(t, s, 0, 1, false, 0)
	for _, m := range []api.Msg{
		g.wants(0, 0, "a"), {Kind: api.MDown, Seq: 1, N: 1}, points(0, 0), {Kind: api.MBeat}, {Kind: api.MBye}, {Kind: api.MHello}, {Kind: api.MStep, Rev: 1}, {Kind: api.MRefuse, Seq: 1}, {Kind: api.MPeer},
	} {
		hearsThat(t, short(m), g.says(m), "")
	}
	if s.Core().Commits() != 0 || s.isIn(0) {
		t.Error("something was done")
	}
	hearsThat(t, "the other one", in.hears(), "")
	hearsThat(t, "a mark", visit(t, s, 2, 1).says(api.Msg{Kind: api.MLogin}), "hello 0 0")
}

// What no client would say, and bodies that are no messages, say nothing to the server.
func TestP192Nothing(t *testing.T) {
	s := open(t, newDisk(t), house())
	g, h := comes(t, s, 0, 1), comes(t, s, 1, 1)
	for _, m := range []api.Msg{{Kind: api.MBeat}, {Kind: api.MHello, Rev: 1}, {Kind: api.MStep, Rev: 1}, {Kind: api.MRefuse, Seq: 1}, {Kind: api.MPeer, Who: 1}, {Kind: api.MLogin, Rev: 7}} {
		ahead := look(s)
		hearsThat(t, short(m), g.says(m), "")
		if look(s) != ahead {
			t.Error(short(m), "something has changed")
		}
	}
	beat, _ := frame.Put(api.Msg{Kind: api.MBeat})
	for _, b := range [][]byte{{1}, make([]byte, 72), beat[:71], append(slices.Clone(beat), 0)} {
		g.end.Send(b)
		hearsThat(t, "bytes", g.says(), "")
	}
	hearsThat(t, "it goes on", g.says(g.wants(0, 0, "a")), "step 1 of 0.1")
	hearsThat(t, "the other one", h.hears(), "step 1 of 0.1")
}

func TestP192Edit(t *testing.T) {
	s := open(t, newDisk(t), house())
	g, h, x := comes(t, s, 0, 1), comes(t, s, 1, 1), comes(t, s, 2, 1)
	first := g.wants(0, 0, "ab")
	l := g.says(first)
	hearsThat(t, "a step", l, "step 1 of 0.1")
	if !isStep(s.Core(), low, l[0]) || s.Core().Text(low) != "ab" {
		t.Error(l, s.Core().Text(low))
	}
	// Of an old revision: brought up.
	m := h.wants(0, 0, "x")
	m.Rev, m.Edit = 0, []api.Part{{Kind: api.Put, N: 1, Text: "x"}}
	hearsThat(t, "brought up", h.says(m), "step 1 of 0.1, step 2 of 1.1")
	if s.Core().Text(low) != "xab" {
		t.Error(s.Core().Text(low))
	}
	hearsThat(t, "seen from above", x.says(x.wants(3, 0, "Y")), "step 1 of 0.1, step 2 of 1.1, step 3 of 2.1")
	label, b, ok := s.journal.At(s.journal.Len() - 1)
	r, bad := core.Get(b)
	if !ok || label != high || bad != api.OK || r.Who != 2 || r.Seq != 1 || r.Kind != api.REdit {
		t.Error(label, r, bad)
	}
	hearsThat(t, "the first one once more", g.says(first), "step 2 of 1.1")
	if s.Core().Commits() != 3 {
		t.Error(s.Core().Commits())
	}
}

func TestP192Refuse(t *testing.T) {
	p := house()
	p.Quotas[low].Chars, p.Quotas[high].Ops = 3, 1
	s := open(t, newDisk(t), p)
	g, x, y := comes(t, s, 0, 1), comes(t, s, 2, 1), comes(t, s, 3, 1)
	g.says(g.wants(0, 0, "abc"))
	x.says(x.wants(0, 0, "X"))
	y.says(y.wants(0, 0, "Z"))
	ahead, n := document(s.Core()), s.journal.Len()
	gap, stale, whole := g.wants(0, 1, ""), g.wants(0, 1, ""), g.wants(0, 1, "")
	gap.Seq, stale.Rev, whole.Edit = 3, 2, nil
	again := g.wants(0, 1, "")
	again.Seq = 0
	for _, z := range []struct {
		g    *guest
		m    api.Msg
		want string
	}{
		{g, gap, "refuse 3 150"}, {g, stale, "refuse 2 151"}, {g, whole, "refuse 2 30"}, {g, g.wants(0, 0, "d"), "refuse 2 152"}, {g, again, ""},
		{x, x.wants(1, 1, ""), "refuse 2 154"}, {x, x.wants(0, 1, ""), "refuse 2 152"}, {x, x.lowers(0, 1, top), "refuse 2 153"}, {x, x.lowers(0, 9, low), "refuse 2 1"}, {x, x.lowers(1, 1, low), "refuse 2 154"}, {x, x.lowers(0, 1, low), "refuse 2 152"},
		{y, y.lowers(0, 1, low), "refuse 2 153"},
	} {
		hearsThat(t, short(z.m), z.g.says(z.m), z.want)
	}
	if document(s.Core()) != ahead || s.journal.Len() != n {
		t.Error("something has changed")
	}
	hearsThat(t, "it goes on", g.says(g.wants(0, 1, "")), "step 2 of 0.2")
}

func TestP192Down(t *testing.T) {
	s := open(t, newDisk(t), house())
	g, x, y := comes(t, s, 0, 1), comes(t, s, 2, 1), comes(t, s, 3, 1)
	g.says(g.wants(0, 0, "ab"))
	x.says(x.wants(1, 0, "XY"))
	m := x.lowers(1, 1, low)
	l := x.says(m)
	hearsThat(t, "let down", l, "step 3 of 2.2")
	if edit.Changes(l[0].Edit) {
		t.Error(l[0])
	}
	hearsThat(t, "once more", x.says(m), "")
	hearsThat(t, "below", g.hears(), "step 2 of 2.0")
	hearsThat(t, "beside", y.hears(), "step 1 of 0.1, step 2 of 2.0")
	label, b, _ := s.journal.At(s.journal.Len() - 1)
	if r, _ := core.Get(b); label != high || r.Kind != api.RDown || r.At != 1 || r.N != 1 || r.Target != low {
		t.Error(label, r)
	}
	if c := s.Core(); c.Text(low) != "aXb" || len(c.Audits()) != 1 {
		t.Error(c.Text(low))
	}
}

// nearlyFull is a server whose disk has room for so many bytes more.
func nearlyFull(t *testing.T, more int) (*Server, *guest) {
	t.Helper()
	d := newDisk(t)
	comes(t, open(t, d, house()), 0, 1)
	small, _ := disk.New(d.Used() + more)
	s := open(t, small, house())
	g := comes(t, s, 0, 1)
	return s, g
}

func TestP192Full(t *testing.T) {
	s, g := nearlyFull(t, 150)
	ahead, n := document(s.Core()), s.journal.Len()
	hearsThat(t, "no room", g.says(g.wants(0, 0, strings.Repeat("a", 200))), "refuse 1 7")
	if document(s.Core()) != ahead || s.journal.Len() != n {
		t.Error("something has changed")
	}
	hearsThat(t, "less", g.says(g.wants(0, 0, "a")), "step 1 of 0.1")
	hearsThat(t, "no more room", g.says(g.wants(0, 0, "b")), "refuse 2 7")
}

func TestP192Cursor(t *testing.T) {
	s := open(t, newDisk(t), house())
	g, h, x, y, z := comes(t, s, 0, 1), comes(t, s, 1, 1), comes(t, s, 2, 1), comes(t, s, 3, 1), comes(t, s, 4, 1)
	g.says(g.wants(0, 0, "abc"))
	x.says(x.wants(1, 0, "XY"))
	for _, o := range []*guest{h, y, z} {
		o.hears()
	}
	hearsThat(t, "its own one", g.says(points(1, 2)), "")
	hearsThat(t, "beside", h.hears(), "peer 0 at 1.2")
	hearsThat(t, "above", x.hears(), "peer 0 at 2.4")
	hearsThat(t, "above", z.hears(), "peer 0 at 2.4")
	x.says(points(2, 2))
	hearsThat(t, "below", g.hears(), "")
	hearsThat(t, "at the side", y.hears(), "peer 0 at 1.2")
	hearsThat(t, "at the top", z.hears(), "peer 2 at 2.2")
	// Of an old revision, carried through each step from there on: what is put just there stands behind it.
	h.says(points(0, 0))
	hearsThat(t, "the very beginning", g.hears(), "peer 1 at 1.0")
	h.says(h.wants(1, 0, "__"))
	h.says(points(1, 1))
	hearsThat(t, "just there", g.hears(), "step 2 of 1.1, peer 1 at 2.1")
	h.says(points(1, 3))
	hearsThat(t, "behind it", g.hears(), "peer 1 at 2.5")
	for _, m := range []api.Msg{points(1, 4), points(2, 6), points(3, 0), points(0, 1), points(1<<40, 0), points(0, 1<<40)} {
		h.says(m)
		hearsThat(t, short(m), g.hears(), "")
	}
	hearsThat(t, "the last mark stays", visit(t, s, 0, 2).says(api.Msg{Kind: api.MLogin, Rev: 2}), "hello 2 1, peer 1 at 2.5")
}

// Whoever comes in is told the cursors of all whose text it sees; marks are brought up until then.
func TestP192CursorsOfOthers(t *testing.T) {
	s := open(t, newDisk(t), house())
	g, h, x, y := comes(t, s, 0, 1), comes(t, s, 1, 1), comes(t, s, 2, 1), comes(t, s, 3, 1)
	y.says(points(0, 0))
	h.says(points(0, 0))
	x.says(x.wants(0, 0, "X"))
	x.says(points(1, 1))
	g.says(g.wants(0, 0, "ab"))
	h.says(h.wants(0, 0, "c"))
	z := visit(t, s, 4, 1)
	hearsThat(t, "at the top", z.says(api.Msg{Kind: api.MLogin, Rev: 3}), "hello 3 0, peer 1 at 3.0, peer 2 at 3.4, peer 3 at 3.0")
	x.says(api.Msg{Kind: api.MBye})
	z = visit(t, s, 4, 2)
	hearsThat(t, "without the one that went", z.says(api.Msg{Kind: api.MLogin, Rev: 3}), "hello 3 0, peer 1 at 3.0, peer 3 at 3.0")
	h.says(points(1, 1))
	hearsThat(t, "it is told anew", z.hears(), "peer 1 at 3.2")
	g = visit(t, s, 0, 2)
	hearsThat(t, "below", g.says(api.Msg{Kind: api.MLogin, Rev: 2}), "hello 2 1, peer 1 at 2.2")
	y.says(api.Msg{Kind: api.MBye})
	y = visit(t, s, 3, 2)
	hearsThat(t, "its own one is not told", y.says(api.Msg{Kind: api.MLogin, Rev: 2}), "hello 2 0, peer 1 at 2.2")
}

func TestP192Bye(t *testing.T) {
	s := open(t, newDisk(t), house())
	g, h := comes(t, s, 0, 1), comes(t, s, 1, 1)
	g.says(points(0, 0))
	g.put(api.Msg{Kind: api.MBye}, api.Msg{Kind: api.MEdit, Seq: 1, Edit: []api.Part{{Kind: api.Put, N: 1, Text: "a"}}})
	g.up()
	is(t, s, 0, 1, false, 0)
	if s.Core().Commits() != 0 {
		t.Error("something was done behind it")
	}
	hearsThat(t, "no mark, no cursor", h.hears(), "")
	hearsThat(t, "nothing is told", g.hears(), "")
	h.says(h.wants(0, 0, "b"), points(0, 0))
	hearsThat(t, "no steps without a session", g.hears(), "")
	hearsThat(t, "in again", g.says(api.Msg{Kind: api.MLogin}), "hello 1 0, step 1 of 1.1, peer 1 at 1.0")
}

func TestP193Frames(t *testing.T) {
	s := open(t, newDisk(t), house())
	g := visit(t, s, 0, 1)
	if l := s.Out(0); len(l) != 0 {
		t.Error("no connection began", len(l))
	}
	g.put(api.Msg{Kind: api.MLogin}, api.Msg{Kind: api.MBeat})
	g.up()
	l := s.Out(0)
	if len(l) != 1 {
		t.Fatal(len(l))
	}
	if f, bad := frame.Unwrap(g.key, true, l[0]); bad != api.ErrKey {
		t.Error("it goes up", f, bad)
	}
	hello, _ := frame.Put(api.Msg{Kind: api.MHello})
	f, bad := frame.Unwrap(g.key, false, l[0])
	if bad != api.OK || f.Conn != 1 || f.Seq != 1 || f.Ack != 2 || !bytes.Equal(f.Body, hello) {
		t.Error(f, bad)
	}
	l[0][0] ^= 1
	if l := s.Out(0); len(l) != 0 {
		t.Error("once is enough", len(l))
	}
	tick(t, s, 3)
	if l := s.Out(0); len(l) != 1 {
		t.Error("it is sent again", len(l))
	}
}

// What is told ahead of steps, then steps, then cursors; never more than 8 wait.
func TestP193Order(t *testing.T) {
	s := open(t, newDisk(t), house())
	g, h, x := comes(t, s, 0, 1), comes(t, s, 1, 1), comes(t, s, 2, 1)
	x.says(points(0, 0))
	h.says(points(0, 0))
	h.says(h.wants(0, 0, "a"))
	h.says(h.wants(0, 0, "b"))
	gap := func(seq int) api.Msg { return api.Msg{Kind: api.MEdit, Seq: seq} }
	x.put(gap(5), gap(6))
	x.up()
	hearsThat(t, "in order", x.hears(), "refuse 5 150, refuse 6 150, step 1 of 1.1, step 2 of 1.2, peer 1 at 2.0")
	z := visit(t, s, 4, 1)
	z.put(api.Msg{Kind: api.MLogin})
	z.up()
	is(t, s, 4, 1, true, 0)
	hearsThat(t, "at first four", z.down(), "hello 2 0, step 1 of 1.1, step 2 of 1.2, peer 1 at 2.0")
	is(t, s, 4, 1, true, 2)
	g.hears()
}

func TestP193Room(t *testing.T) {
	s := open(t, newDisk(t), house())
	h, g := comes(t, s, 1, 1), comes(t, s, 0, 1)
	h.says(points(0, 0))
	waiting := func(n, told int) {
		t.Helper()
		if w := s.lines[0].end.Waiting(); w != n {
			t.Errorf("%d wait, not %d", w, n)
		}
		is(t, s, 0, 1, true, told)
	}
	g.hears()
	for range 6 {
		h.says(h.wants(0, 0, "a"))
	}
	for i := range 3 {
		g.put(api.Msg{Kind: api.MEdit, Seq: 5 + i})
	}
	h.says(points(6, 1))
	waiting(0, 0)
	g.up()
	s.Out(0)
	waiting(8, 5)
	s.Out(0)
	waiting(8, 5)
	for i := range 9 {
		g.end.Send([]byte{byte(i)}) // bodies that are no messages
	}
	for range 9 {
		g.put(api.Msg{Kind: api.MEdit, Seq: 9})
	}
	for range 20 { // without an acknowledgement of anything
		for _, f := range g.end.Out() {
			f.Ack = 0
			b, _ := frame.Wrap(g.key, true, f)
			fails(t, "take", s.Take(0, b), api.OK)
		}
		for _, b := range s.Out(0) {
			f, _ := frame.Unwrap(g.key, false, b)
			g.end.Take(api.Frame{Conn: 1, Ack: f.Ack})
		}
		tick(t, s, 1)
		g.end.Tick()
		waiting(8, 5)
	}
	if n := len(s.lines[0].ahead); n != 9 {
		t.Error("refusals that have no room", n)
	}
	for range 3 {
		tick(t, s, 1)
	}
	l := g.hears()
	want := "refuse 5 150, refuse 6 150, refuse 7 150, step 1 of 1.1, step 2 of 1.2, step 3 of 1.3, step 4 of 1.4, step 5 of 1.5" + strings.Repeat(", refuse 9 150", 9) + ", step 6 of 1.6, peer 1 at 6.1"
	hearsThat(t, "all of it", l, want)
	for _, m := range l {
		if m.Kind == api.MStep && !isStep(s.Core(), low, m) {
			t.Error(m)
		}
	}
}

// A cursor is told by rising client, as it is when there is room; not, if its mark is gone by then; and once.
func TestP193Cursors(t *testing.T) {
	s := open(t, newDisk(t), house())
	z := comes(t, s, 4, 1)
	g, h, x, y := comes(t, s, 0, 1), comes(t, s, 1, 1), comes(t, s, 2, 1), comes(t, s, 3, 1)
	y.says(points(0, 0))
	x.says(points(0, 0))
	h.says(points(0, 0))
	g.says(points(0, 0))
	g.says(g.wants(0, 0, "ab"))
	g.says(points(1, 2))
	x.says(api.Msg{Kind: api.MBye})
	hearsThat(t, "as they are", z.hears(), "step 1 of 0.1, peer 0 at 1.2, peer 1 at 1.0, peer 3 at 1.0")
	hearsThat(t, "no more", z.hears(), "")
	x = comes(t, s, 2, 2)
	hearsThat(t, "without a mark", z.hears(), "")
	x.says(points(1, 1))
	hearsThat(t, "with one", z.hears(), "peer 2 at 1.1")
}

// Without a session what is told ahead of steps comes, and nothing else.
func TestP193Outside(t *testing.T) {
	s := open(t, newDisk(t), house())
	g, h := comes(t, s, 0, 1), comes(t, s, 1, 1)
	h.says(h.wants(0, 0, "a"), points(0, 0))
	g.put(api.Msg{Kind: api.MEdit, Seq: 7}, api.Msg{Kind: api.MBye})
	g.up()
	hearsThat(t, "the refusal", g.hears(), "refuse 7 150")
	is(t, s, 0, 1, false, 0)
}

func TestP194Beat(t *testing.T) {
	s := open(t, newDisk(t), house())
	g, h := comes(t, s, 0, 1), comes(t, s, 1, 1)
	// quiet wants so many ticks without anything, and then a beat.
	quiet := func(n int) {
		t.Helper()
		for range n {
			tick(t, s, 1)
			if l := s.Out(0); len(l) != 0 {
				t.Error("something comes", len(l))
			}
			h.says(api.Msg{Kind: api.MBeat})
		}
		tick(t, s, 1)
		hearsThat(t, "a beat", g.hears(), "beat")
		h.hears()
	}
	quiet(5)
	quiet(5)
	tick(t, s, 4)
	h.says(h.wants(0, 0, "a"))
	hearsThat(t, "a step", g.hears(), "step 1 of 1.1")
	quiet(5)
	tick(t, s, 5)
	g.says(api.Msg{Kind: api.MEdit, Seq: 9})
	quiet(5)
	h.says(points(1, 1))
	tick(t, s, 5)
	hearsThat(t, "a cursor", g.hears(), "peer 1 at 1.1")
	quiet(5)
	tick(t, s, 3)
	g.says(api.Msg{Kind: api.MBeat})
	quiet(2) // what a client says is nothing that it is told
}

// No beat at 6, if something waits; then none, until something else was told.
func TestP194BeatWaits(t *testing.T) {
	s := open(t, newDisk(t), house())
	g, h := comes(t, s, 0, 1), comes(t, s, 1, 1)
	h.says(h.wants(0, 0, "a"))
	s.Out(0)
	tick(t, s, 7)
	hearsThat(t, "the step, sent again", g.hears(), "step 1 of 1.1")
	for range 20 {
		tick(t, s, 1)
		g.says(api.Msg{Kind: api.MBeat})
		hearsThat(t, "no beat", g.hears(), "")
		h.says(api.Msg{Kind: api.MBeat})
	}
	h.says(h.wants(0, 0, "b"))
	hearsThat(t, "another step", g.hears(), "step 2 of 1.2")
	tick(t, s, 5)
	hearsThat(t, "not yet", g.hears(), "")
	tick(t, s, 1)
	hearsThat(t, "now", g.hears(), "beat")
}

// Each beat is told anew six ticks behind the last one, even if nobody asked for what goes out between them: nothing waits in the channel then.
func TestP194BeatUnasked(t *testing.T) {
	s := open(t, newDisk(t), house())
	g := comes(t, s, 0, 1)
	tick(t, s, 11)
	hearsThat(t, "one", g.hears(), "beat")
	tick(t, s, 17)
	hearsThat(t, "two", g.hears(), "beat, beat")
}

// Who has no session hears no beat, but what waits is sent again.
func TestP194BeatOutside(t *testing.T) {
	s := open(t, newDisk(t), house())
	g := visit(t, s, 0, 1)
	g.put(api.Msg{Kind: api.MLogin, Rev: 7})
	g.up()
	if l := s.Out(0); len(l) != 1 {
		t.Fatal(len(l))
	}
	tick(t, s, 2)
	if l := s.Out(0); len(l) != 0 {
		t.Error(len(l))
	}
	tick(t, s, 1)
	hearsThat(t, "again", g.hears(), "bye 151")
	tick(t, s, 50)
	hearsThat(t, "no beat", g.hears(), "")
	is(t, s, 0, 1, false, 0)
}

func TestP194Silence(t *testing.T) {
	s := open(t, newDisk(t), house())
	h, g := comes(t, s, 1, 1), comes(t, s, 0, 1)
	g.says(points(0, 0))
	h.hears()
	g.put(api.Msg{Kind: api.MBeat})
	late := g.frames()[0]
	for i := range 24 {
		is(t, s, 0, 1, true, 0)
		tick(t, s, 1)
		if i%6 == 0 {
			h.says(api.Msg{Kind: api.MBeat})
		}
	}
	is(t, s, 0, 1, false, 0)
	is(t, s, 1, 1, true, 0)
	if l := s.Out(0); len(l) != 0 {
		t.Error("its connection is not forgotten", len(l))
	}
	fails(t, "late", s.Take(0, late), api.ErrShut)
	h.says(h.wants(0, 0, "a"))
	hearsThat(t, "it has no mark", visit(t, s, 2, 1).says(api.Msg{Kind: api.MLogin, Rev: 1}), "hello 1 0")
	g = visit(t, s, 0, 2)
	hearsThat(t, "it comes in anew", g.says(api.Msg{Kind: api.MLogin}), "hello 1 0, step 1 of 1.1")
	is(t, s, 0, 2, true, 1)
}

// Any frame of the connection is a sign of life, one without a body too.
func TestP194Heard(t *testing.T) {
	s := open(t, newDisk(t), house())
	g := comes(t, s, 0, 1)
	for range 5 {
		tick(t, s, 23)
		g.down()
		b, _ := frame.Wrap(g.key, true, api.Frame{Conn: 1, Ack: g.end.Taken()})
		fails(t, "an acknowledgement", s.Take(0, b), api.OK)
		is(t, s, 0, 1, true, 0)
	}
	wrong, _ := frame.Wrap(make([]byte, api.KeySize), true, api.Frame{Conn: 1})
	tick(t, s, 23)
	fails(t, "of another key", s.Take(0, wrong), api.ErrKey)
	tick(t, s, 1)
	is(t, s, 0, 1, false, 0)
}

func TestP194Check(t *testing.T) {
	d := newDisk(t)
	s := open(t, d, house())
	g := comes(t, s, 0, 1)
	for range 5 {
		g.says(g.wants(0, 0, "a"))
	}
	fails(t, "check", s.Check(), api.OK)
	first, _ := d.Read(0)
	if len(first) > 40 {
		t.Error("no checkpoint was made", len(first))
	}
	g.says(g.wants(0, 0, "b"))
	if s = open(t, d, house()); s.Core().Text(low) != "baaaaa" {
		t.Error(s.Core().Text(low))
	}
	s, g = nearlyFull(t, 10)
	fails(t, "no room", s.Check(), api.ErrFull)
	hearsThat(t, "it goes on", g.says(api.Msg{Kind: api.MEdit, Seq: 9}), "refuse 9 150")
}

// still wants a server that does nothing any more.
func still(t *testing.T, s *Server, b []byte) {
	t.Helper()
	for _, who := range []int{-1, 0, 9} {
		is(t, s, who, 0, false, 0)
		fails(t, "take", s.Take(who, b), api.ErrNil)
		if s.Locked(who) != 0 || len(s.Out(who)) != 0 {
			t.Error(who, s.Locked(who))
		}
	}
	fails(t, "tick", s.Tick(), api.ErrNil)
	fails(t, "check", s.Check(), api.ErrNil)
	if s.Core() != nil {
		t.Error("it has a document")
	}
}

func TestP194Nil(t *testing.T) {
	var none *Server
	for _, s := range []*Server{none, {}} {
		still(t, s, nil)
		still(t, s, make([]byte, 100))
	}
}

func TestP194Still(t *testing.T) {
	for i := range 3 {
		d := newDisk(t)
		s := open(t, d, house())
		g := comes(t, s, 0, 1)
		g.says(g.wants(0, 0, "a"))
		h := visit(t, s, 1, 1)
		h.put(api.Msg{Kind: api.MLogin})
		g.put(g.wants(0, 0, "b"), api.Msg{Kind: api.MEdit, Seq: 9})
		frames := [][]byte{g.frames()[0], h.frames()[0]}
		d.Arm(1)
		var bad api.Errno
		switch i {
		case 0:
			bad = s.Take(0, frames[0])
		case 1:
			bad = s.Take(1, frames[1])
		case 2:
			bad = s.Check()
		}
		fails(t, "the power goes", bad, api.ErrDown)
		still(t, s, frames[0])
		d.Start()
		still(t, s, frames[1])
		if s = open(t, d, house()); s.Core().Text(low) != "a" {
			t.Error(s.Core().Text(low))
		}
	}
	// A disk that goes unseen is seen as soon as something is to be kept.
	d := newDisk(t)
	s := open(t, d, house())
	g := comes(t, s, 0, 1)
	d.Crash()
	hearsThat(t, "a beat", g.says(api.Msg{Kind: api.MBeat}), "")
	g.put(g.wants(0, 0, "a"))
	fails(t, "an edit", s.Take(0, g.frames()[0]), api.ErrDown)
	still(t, s, nil)
}

// What is refused with ErrDown's number by anybody but the journal is no reason to stand still: no document does.
func TestP194Others(t *testing.T) {
	if stops(fault(api.ErrDown)) || !stops(kept(api.ErrDown)) || stops(kept(api.ErrFull)) || stops(nil) {
		t.Error("not a halt of the journal alone")
	}
	if number(kept(api.ErrDown)) != api.ErrDown || number(fault(api.ErrFull)) != api.ErrFull || number(nil) != api.OK || kept(api.OK) != nil {
		t.Error("another number")
	}
	if !strings.Contains(kept(api.ErrDown).Error(), api.ErrDown.Error()) {
		t.Error(kept(api.ErrDown).Error())
	}
}

// The example of the chapter.
func TestP192Example(t *testing.T) {
	s := open(t, newDisk(t), house())
	g := visit(t, s, 0, 1)
	hearsThat(t, "login", g.says(api.Msg{Kind: api.MLogin}), "hello 0 0")
	m := g.wants(0, 0, "ab")
	hearsThat(t, "edit", g.says(m), "step 1 of 0.1")
	hearsThat(t, "once more", g.says(m), "")
}
