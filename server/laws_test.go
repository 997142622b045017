package server

import (
	"bytes"
	"fmt"
	"math/rand"
	"slices"
	"strings"
	"testing"

	"sealskin/api"
	"sealskin/frame"
)

// The power goes behind each byte of what one edit writes: it is there, or it is not; sent again, it is there once.
func TestP196Torn(t *testing.T) {
	for n := 1; ; n++ {
		d := newDisk(t)
		s := open(t, d, house())
		g := comes(t, s, 0, 1)
		g.says(g.wants(0, 0, "ab"))
		m := g.wants(1, 1, "xyz")
		g.put(m)
		d.Arm(n)
		bad := s.Take(0, g.frames()[0])
		if bad == api.OK {
			if s.Core().Text(low) != "axyz" || n < 100 {
				t.Error(n, s.Core().Text(low))
			}
			return
		}
		fails(t, "torn", bad, api.ErrDown)
		d.Start()
		s = open(t, d, house())
		if l := s.Core().Text(low); l != "ab" && l != "axyz" {
			t.Fatal(n, l)
		}
		g = visit(t, s, 0, 2)
		want := "hello 1 1, step 2 of 0.2"
		if s.Core().Last(0) == 2 {
			want = "hello 2 2, step 2 of 0.2"
		}
		hearsThat(t, fmt.Sprint(n), g.says(api.Msg{Kind: api.MLogin, Rev: 1}, m, m), want)
		if s.Core().Text(low) != "axyz" || s.Core().Commits() != 2 {
			t.Fatal(n, s.Core().Text(low))
		}
	}
}

// The power goes behind each byte of a login: it began, or it did not.
func TestP197Torn(t *testing.T) {
	for n := 1; ; n++ {
		d := newDisk(t)
		s := open(t, d, house())
		comes(t, s, 0, 1)
		g := visit(t, s, 0, 2)
		g.put(api.Msg{Kind: api.MLogin})
		b := g.frames()[0]
		d.Arm(n)
		bad := s.Take(0, b)
		if bad == api.OK {
			is(t, s, 0, 2, true, 0)
			return
		}
		fails(t, "torn", bad, api.ErrDown)
		d.Start()
		s = open(t, d, house())
		conn, isOpen, _ := s.State(0)
		if isOpen || conn != 1 && conn != 2 {
			t.Fatal(n, conn, isOpen)
		}
		want := api.OK
		if conn == 2 {
			want = api.ErrShut
		}
		fails(t, fmt.Sprint(n), s.Take(0, b), want)
	}
}

// What was told as a step is committed, once a new server has the disk, whatever was being written.
func TestP195Kept(t *testing.T) {
	for n := 1; n < 400; n += 7 {
		d := newDisk(t)
		s := open(t, d, house())
		g, h := comes(t, s, 0, 1), comes(t, s, 2, 1)
		g.says(g.wants(0, 0, "ab"))
		h.says(h.wants(1, 0, "X"))
		told := append(g.says(g.wants(0, 0, "c")), h.hears()...)
		hearsThat(t, "steps", told, "step 2 of 0.2, step 3 of 0.2")
		d.Arm(n)
		for _, x := range []*guest{g, h} {
			if s.made() {
				x.put(x.wants(0, 0, "torn"))
				s.Take(x.who, x.frames()[0])
			}
		}
		d.Crash()
		d.Start()
		s = open(t, d, house())
		if !isStep(s.Core(), low, told[0]) || !isStep(s.Core(), high, told[1]) || !strings.HasSuffix(s.Core().Text(high), "caXb") {
			t.Errorf("%d: %q", n, s.Core().Text(high))
		}
	}
}

func TestP196Again(t *testing.T) {
	d := newDisk(t)
	s := open(t, d, house())
	g := comes(t, s, 0, 1)
	first, second := g.wants(0, 0, "a"), g.wants(0, 0, "b")
	second.Seq = 2
	hearsThat(t, "both", g.says(first, second), "step 1 of 0.1, step 2 of 0.2")
	hearsThat(t, "both once more", g.says(second, first, first, second), "")
	s = open(t, d, house())
	g = comes(t, s, 0, 2)
	hearsThat(t, "of a new server", g.says(first, second), "")
	if s.Core().Commits() != 2 || s.Core().Text(low) != "ba" {
		t.Error(s.Core().Text(low))
	}
}

func TestP197Closed(t *testing.T) {
	d := newDisk(t)
	s := open(t, d, house())
	var old [][]byte
	for conn := 1; conn < 4; conn++ {
		g := visit(t, s, 0, conn)
		g.put(api.Msg{Kind: api.MLogin}, api.Msg{Kind: api.MBeat})
		for _, b := range g.frames() {
			fails(t, "take", s.Take(0, b), api.OK)
			old = append(old, b)
		}
	}
	is(t, s, 0, 3, true, 0)
	for range 2 {
		s = open(t, d, house())
		is(t, s, 0, 3, false, 0)
		for i, b := range old {
			want := api.ErrConn
			if i >= 4 {
				want = api.ErrShut
			}
			fails(t, fmt.Sprint(i), s.Take(0, b), want)
		}
		is(t, s, 0, 3, false, 0)
	}
	hearsThat(t, "a new one", visit(t, s, 0, 4).says(api.Msg{Kind: api.MLogin}), "hello 0 0")
}

// talk is what low clients are sent, in a house where others do what they like, or nothing.
func talk(t *testing.T, seed int64, others bool) (out [][]byte) {
	t.Helper()
	r := rand.New(rand.NewSource(seed))
	s := open(t, newDisk(t), house())
	all := make([]*guest, 5)
	for range 300 {
		who, kind, n := r.Intn(5), r.Intn(10), r.Intn(1000)
		switch {
		case kind > 7:
			tick(t, s, 1)
		case who < 2 || others:
			all[who] = acts(t, s, all[who], who, kind, n)
		}
		for who, x := range all {
			if x == nil {
				continue
			}
			l := x.gets()
			x.brings()
			if who < 2 {
				out = append(out, l...)
			}
		}
	}
	return out
}

// gets is what the server has for a guest, who may have begun a new connection of which the server does not know.
func (g *guest) gets() [][]byte {
	l := g.s.Out(g.who)
	for _, b := range l {
		if f, bad := frame.Unwrap(g.key, false, b); bad == api.OK {
			g.end.Take(f)
		}
	}
	return l
}

// brings brings what a guest has to the server, whatever that says to it.
func (g *guest) brings() {
	for _, b := range g.frames() {
		g.s.Take(g.who, b)
	}
}

// acts lets somebody do something; nobody is nil, and comes.
func acts(t *testing.T, s *Server, g *guest, who, kind, n int) *guest {
	t.Helper()
	label := s.labelOf(who)
	size, rev := s.Core().Size(label), s.Core().Rev(label)
	if g == nil || kind == 0 {
		conn, _, _ := s.State(who)
		g = visit(t, s, who, conn+1)
		g.put(api.Msg{Kind: api.MLogin, Rev: rev})
		kind = 0
	}
	if g.end.Waiting() > 20 {
		return g
	}
	switch kind {
	case 1, 2:
		g.put(g.wants(n%(size+1), 0, "xy"))
	case 3:
		g.put(g.wants(0, min(size, n%3), ""))
	case 4:
		g.put(points(rev, n%(size+1)))
	case 5:
		g.put(g.lowers(0, 1, side+n%2), api.Msg{Kind: api.MEdit, Seq: n})
	case 6:
		wrong, _ := frame.Wrap(frame.Key("wrong", who, 1000), true, api.Frame{Conn: 1000, Seq: 1, Body: []byte{1}})
		s.Take(who, wrong)
	case 7:
		g.put(api.Msg{Kind: api.MBye}, api.Msg{Kind: api.MLogin, Rev: rev})
	}
	g.brings()
	return g
}

func TestP198Sight(t *testing.T) {
	n := 0
	for seed := range int64(100) {
		whole, part := talk(t, seed, true), talk(t, seed, false)
		if !slices.EqualFunc(whole, part, bytes.Equal) {
			t.Fatalf("%d: %d frames, not %d", seed, len(whole), len(part))
		}
		n += len(whole)
	}
	if n < 1000 {
		t.Error("too little was said", n)
	}
}

// However much there is to be told, and however little is acknowledged.
func TestP199Room(t *testing.T) {
	most := 0
	for seed := range int64(60) {
		r := rand.New(rand.NewSource(seed))
		s := open(t, newDisk(t), house())
		z, x := visit(t, s, 4, 1), comes(t, s, 2, 1)
		z.put(api.Msg{Kind: api.MLogin})
		for range 200 {
			switch r.Intn(8) {
			case 0, 1, 2:
				x.says(x.wants(0, 0, "a"))
			case 3:
				x.says(points(0, 0))
			case 4:
				if z.end.Waiting() < 30 {
					z.put(api.Msg{Kind: api.MEdit, Seq: 99}, api.Msg{Kind: api.MBeat})
				}
			case 5:
				z.up()
			case 6:
				if l := s.Out(4); len(l) > 0 {
					f, _ := frame.Unwrap(z.key, false, l[0])
					z.end.Take(f)
				}
			case 7:
				s.Tick()
				x.says(api.Msg{Kind: api.MBeat})
			}
			if l := s.lines[4]; l != nil {
				most = max(most, l.end.Waiting())
			}
		}
	}
	if most != 8 {
		t.Error("at most", most)
	}
}

// Whatever clients say, no call panics; the document stays what the journal's records make of nothing.
func TestP192Wild(t *testing.T) {
	said := 0
	for seed := range int64(100) {
		r := rand.New(rand.NewSource(seed))
		d := newDisk(t)
		s := open(t, d, house())
		all := make([]*guest, 5)
		for range 200 {
			who := r.Intn(5)
			if all[who] == nil || r.Intn(40) == 0 {
				all[who] = acts(t, s, nil, who, 0, 0)
			}
			g := all[who]
			number := func() int { return []int{0, 1, 2, r.Intn(20), 1 << 40}[r.Intn(5)] }
			m := g.wants(0, 0, "x")
			switch r.Intn(6) {
			case 0:
				m.Seq, m.Rev = number(), number()
			case 1:
				m = api.Msg{Kind: api.MDown, Seq: m.Seq, Rev: m.Rev, At: number(), N: number(), Target: r.Intn(32)}
			case 2:
				m = points(number(), number())
			case 3:
				m = api.Msg{Kind: 1 + r.Intn(10)}
			case 4:
				m = api.Msg{Kind: api.MLogin, Rev: number()}
			}
			b, bad := frame.Put(m)
			if bad == api.OK && g.end.Send(b) == api.OK {
				said++
			}
			g.brings()
			g.gets()
			g.brings()
			if r.Intn(5) == 0 {
				s.Tick()
			}
		}
		if document(open(t, d, house()).Core()) != document(s.Core()) {
			t.Fatalf("%d: another document", seed)
		}
	}
	if said < 1000 {
		t.Error("too little was said", said)
	}
}
