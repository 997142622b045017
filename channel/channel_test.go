package channel

import (
	"bytes"
	"fmt"
	"math"
	"math/rand"
	"reflect"
	"testing"

	"sealskin/api"
)

const conn = 7

func end(t *testing.T) *Channel {
	t.Helper()
	c, bad := New(conn)
	if c == nil || bad != api.OK {
		t.Fatal(c, bad)
	}
	return c
}

// send gives an end so many bodies: of the n-th one n is the text.
func send(t *testing.T, c *Channel, from, to int) {
	t.Helper()
	for i := from; i <= to; i++ {
		if bad := c.Send(body(i)); bad != api.OK {
			t.Fatalf("body %d: %d", i, bad)
		}
	}
}

func body(n int) []byte { return fmt.Append(nil, n) }

func carry(seq, ack int) api.Frame {
	return api.Frame{Conn: conn, Seq: seq, Ack: ack, Body: body(seq)}
}

func ack(n int) api.Frame { return api.Frame{Conn: conn, Ack: n} }

// take takes a frame, and tells which bodies come of it.
func take(t *testing.T, c *Channel, f api.Frame) string {
	t.Helper()
	l, bad := c.Take(f)
	if bad != api.OK {
		t.Fatalf("%+v: %d", f, bad)
	}
	return fmt.Sprintf("%s", l)
}

// out is the frames that an end sends, as texts.
func out(c *Channel) string {
	s := ""
	for _, f := range c.Out() {
		s += fmt.Sprintf("%d:%d/%d=%s ", f.Conn, f.Seq, f.Ack, f.Body)
	}
	return s
}

func tick(c *Channel, n int) {
	for range n {
		c.Tick()
	}
}

func wants(t *testing.T, what, got, want string) {
	t.Helper()
	if got != want {
		t.Errorf("%s: %q, not %q", what, got, want)
	}
}

func TestP141New(t *testing.T) {
	for _, n := range []int{1, 2, 1 << 40} {
		c, bad := New(n)
		if bad != api.OK || c.Conn() != n || c.Waiting() != 0 || c.Taken() != 0 || !c.Calm() || len(c.Out()) != 0 {
			t.Errorf("%d: %d", n, bad)
		}
	}
	for _, n := range []int{0, -1, 1<<40 + 1, math.MinInt, math.MaxInt} {
		if c, bad := New(n); c != nil || bad != api.ErrArg {
			t.Errorf("%d: %v, %d", n, c, bad)
		}
	}
}

func TestP141Send(t *testing.T) {
	c := end(t)
	for _, x := range []struct {
		b    []byte
		want api.Errno
	}{
		{nil, api.ErrArg}, {[]byte{}, api.ErrArg}, {make([]byte, 16321), api.ErrLong}, {make([]byte, 1<<20), api.ErrLong}, {make([]byte, 16320), api.OK}, {[]byte{0}, api.OK},
	} {
		ahead := c.Waiting()
		bad := c.Send(x.b)
		if bad != x.want || c.Waiting() != ahead && bad != api.OK || c.Waiting() == ahead && bad == api.OK {
			t.Errorf("%d bytes: %d, %d wait", len(x.b), bad, c.Waiting())
		}
	}
	f := c.Out()
	if len(f) != 2 || f[0].Seq != 1 || !bytes.Equal(f[0].Body, make([]byte, 16320)) || f[1].Seq != 2 || !bytes.Equal(f[1].Body, []byte{0}) {
		t.Error(len(f))
	}
}

func TestP141Full(t *testing.T) {
	c := end(t)
	send(t, c, 1, 32)
	for _, x := range []struct {
		b    []byte
		want api.Errno
	}{
		{[]byte("x"), api.ErrFull}, {nil, api.ErrArg}, {make([]byte, 16321), api.ErrLong},
	} {
		if bad := c.Send(x.b); bad != x.want || c.Waiting() != 32 {
			t.Errorf("%d bytes: %d, %d wait", len(x.b), bad, c.Waiting())
		}
	}
	out(c)
	take(t, c, ack(2))
	send(t, c, 33, 34)
	if c.Send([]byte("x")) != api.ErrFull || c.Waiting() != 32 {
		t.Error(c.Waiting())
	}
}

// So many bodies nobody can send: the number is set by hand.
func TestP141Range(t *testing.T) {
	c := end(t)
	c.next = 1 << 40
	send(t, c, 1, 1)
	if bad := c.Send([]byte("x")); bad != api.ErrRange || c.Waiting() != 1 {
		t.Error(bad, c.Waiting())
	}
	if c.Send(nil) != api.ErrArg || c.Send(make([]byte, 16321)) != api.ErrLong {
		t.Error("ErrRange comes last")
	}
	wants(t, "out", out(c), "7:1099511627776/0=1 ")
	c = end(t)
	c.next = 1<<40 - 31
	send(t, c, 1, 32)
	if bad := c.Send([]byte("x")); bad != api.ErrFull {
		t.Error(bad)
	}
}

func TestP142Errors(t *testing.T) {
	c := end(t)
	send(t, c, 1, 1)
	out(c)
	x := []byte("x")
	for _, y := range []struct {
		f    api.Frame
		want api.Errno
	}{
		{api.Frame{}, api.ErrConn},
		{api.Frame{Conn: 6, Seq: 1, Ack: 1, Body: x}, api.ErrConn},
		{api.Frame{Conn: 8, Seq: 1, Ack: 1, Body: x}, api.ErrConn},
		{api.Frame{Conn: -7, Seq: -1, Ack: -1}, api.ErrConn},
		{api.Frame{Conn: math.MaxInt, Body: x}, api.ErrConn},
		{api.Frame{Conn: conn, Seq: -1, Ack: 1}, api.ErrForm},
		{api.Frame{Conn: conn, Seq: -1, Ack: 1, Body: x}, api.ErrForm},
		{api.Frame{Conn: conn, Seq: math.MinInt, Ack: 1, Body: x}, api.ErrForm},
		{api.Frame{Conn: conn, Ack: -1}, api.ErrForm},
		{api.Frame{Conn: conn, Seq: 1, Ack: -1, Body: x}, api.ErrForm},
		{api.Frame{Conn: conn, Ack: 1, Body: x}, api.ErrForm},
		{api.Frame{Conn: conn, Seq: 1, Ack: 1}, api.ErrForm},
		{api.Frame{Conn: conn, Seq: 1, Ack: 1, Body: []byte{}}, api.ErrForm},
	} {
		l, bad := c.Take(y.f)
		if len(l) != 0 || bad != y.want || c.Waiting() != 1 || c.Taken() != 0 {
			t.Errorf("%+v: %q, %d, %d wait, %d told", y.f, l, bad, c.Waiting(), c.Taken())
		}
	}
	wants(t, "nothing has changed: it owes nothing", out(c), "")
	wants(t, "the next one", take(t, c, carry(1, 1)), "[1]")
	if c.Waiting() != 0 {
		t.Error(c.Waiting())
	}
}

func TestP142Acknowledged(t *testing.T) {
	c := end(t)
	send(t, c, 1, 6)
	take(t, c, ack(6))
	if c.Waiting() != 6 {
		t.Error("what was not sent was acknowledged", c.Waiting())
	}
	out(c)
	for _, x := range []struct{ ack, left int }{{0, 6}, {2, 4}, {1, 4}, {2, 4}, {math.MaxInt, 2}, {6, 2}} {
		take(t, c, ack(x.ack))
		if c.Waiting() != x.left {
			t.Errorf("up to %d: %d wait", x.ack, c.Waiting())
		}
	}
	wants(t, "the others", out(c), "7:5/0=5 7:6/0=6 ")
	wants(t, "with a body", take(t, c, carry(1, 5)), "[1]")
	if c.Waiting() != 1 {
		t.Error(c.Waiting())
	}
	take(t, c, carry(9, 6))
	if c.Waiting() != 0 {
		t.Error("a frame far ahead acknowledges, too", c.Waiting())
	}
}

func TestP142Order(t *testing.T) {
	c := end(t)
	for _, x := range []struct {
		seq  int
		want string
	}{
		{5, "[]"}, {math.MaxInt, "[]"}, // too far ahead
		{4, "[]"}, {2, "[]"}, {2, "[]"}, {1, "[1 2]"}, {1, "[]"}, {2, "[]"}, // 4 came early
		{7, "[]"}, {6, "[]"}, {3, "[3 4]"}, // 7 was too far ahead
		{8, "[]"}, {9, "[]"}, {5, "[5 6]"}, {7, "[7 8]"}, // 9 was
		{9, "[9]"}, {10, "[10]"}, {5, "[]"},
	} {
		wants(t, fmt.Sprint(x.seq), take(t, c, carry(x.seq, 0)), x.want)
	}
	if c.Taken() != 10 {
		t.Error(c.Taken())
	}
	wants(t, "the acknowledgement", out(c), "7:0/10= ")
}

// Of two that came early under one number the first one stays.
func TestP142First(t *testing.T) {
	c := end(t)
	for _, b := range []string{"one", "two"} {
		take(t, c, api.Frame{Conn: conn, Seq: 2, Body: []byte(b)})
	}
	wants(t, "early", take(t, c, carry(1, 0)), "[1 one]")
}

// A body may be longer than one that is sent: Take does not ask.
func TestP142LongBodies(t *testing.T) {
	c := end(t)
	if l, bad := c.Take(api.Frame{Conn: conn, Seq: 1, Body: make([]byte, 1<<16)}); bad != api.OK || len(l) != 1 || len(l[0]) != 1<<16 {
		t.Error(bad)
	}
}

// Every frame with a body is acknowledged, whether it is told or not; one without is not.
func TestP142Owes(t *testing.T) {
	for name, x := range map[string]struct {
		f    api.Frame
		want string
	}{
		"next":      {carry(3, 0), "7:0/3= "},
		"early":     {carry(4, 0), "7:0/2= "},
		"far ahead": {carry(7, 0), "7:0/2= "},
		"old":       {carry(1, 0), "7:0/2= "},
		"no body":   {ack(5), ""},
	} {
		c := end(t)
		take(t, c, carry(1, 0))
		take(t, c, carry(2, 0))
		out(c)
		take(t, c, x.f)
		if c.Calm() != (x.want == "") {
			t.Errorf("%s: calm %t", name, c.Calm())
		}
		wants(t, name, out(c), x.want)
		wants(t, name+", once more", out(c), "")
		if !c.Calm() {
			t.Errorf("%s: not calm", name)
		}
	}
}

func TestP143Again(t *testing.T) {
	c := end(t)
	send(t, c, 1, 1)
	tick(c, 9)
	wants(t, "first", out(c), "7:1/0=1 ")
	for i := range 5 {
		wants(t, "at once", out(c), "")
		tick(c, 2)
		wants(t, "behind two ticks", out(c), "")
		tick(c, 1+i)
		wants(t, "behind three ticks", out(c), "7:1/0=1 ")
	}
	tick(c, 2)
	send(t, c, 2, 3)
	wants(t, "more", out(c), "7:2/0=2 7:3/0=3 ")
	tick(c, 1)
	wants(t, "the first again", out(c), "7:1/0=1 ")
	tick(c, 2)
	wants(t, "the others again", out(c), "7:2/0=2 7:3/0=3 ")
	tick(c, 1)
	wants(t, "the first once more", out(c), "7:1/0=1 ")
}

func TestP143Acknowledgements(t *testing.T) {
	c := end(t)
	take(t, c, carry(1, 0))
	send(t, c, 1, 2)
	wants(t, "in a frame with a body", out(c), "7:1/1=1 7:2/1=2 ")
	wants(t, "no more", out(c), "")
	take(t, c, carry(2, 0))
	wants(t, "alone", out(c), "7:0/2= ")
	tick(c, 3)
	wants(t, "again, with the last one", out(c), "7:1/2=1 7:2/2=2 ")
	take(t, c, carry(4, 0))
	tick(c, 3)
	wants(t, "what came early is not told", out(c), "7:1/2=1 7:2/2=2 ")
	if c.Calm() {
		t.Error("two wait")
	}
}

func TestP144Tells(t *testing.T) {
	c := end(t)
	send(t, c, 1, 2)
	if c.Waiting() != 2 || c.Calm() || c.Taken() != 0 {
		t.Error("two wait", c.Waiting())
	}
	out(c)
	if c.Waiting() != 2 || c.Calm() {
		t.Error("what is sent waits", c.Waiting())
	}
	take(t, c, ack(2))
	if c.Waiting() != 0 || !c.Calm() {
		t.Error("none waits", c.Waiting())
	}
	take(t, c, carry(2, 0))
	if c.Taken() != 0 || c.Calm() {
		t.Error("early ones are not told", c.Taken())
	}
	take(t, c, carry(1, 0))
	if c.Taken() != 2 || c.Calm() || c.Conn() != conn {
		t.Error("two were told", c.Taken())
	}
}

func TestP144Unmade(t *testing.T) {
	for name, c := range map[string]*Channel{"nil": nil, "plain": {}, "new": new(Channel)} {
		for range 2 {
			l, bad := c.Take(api.Frame{})
			if c.Conn() != 0 || c.Waiting() != 0 || c.Taken() != 0 || !c.Calm() || c.Clone() != nil || len(c.Out()) != 0 || len(l) != 0 {
				t.Errorf("%s: an answer", name)
			}
			if bad != api.ErrNil || c.Tick() != api.ErrNil || c.Send(nil) != api.ErrNil || c.Send([]byte("x")) != api.ErrNil {
				t.Errorf("%s: %d", name, bad)
			}
		}
	}
	if c := end(t); c.Tick() != api.OK {
		t.Error("an end that New made")
	}
}

// model is one end in the chapter's words.
type model struct {
	conn, next, wanted int
	waiting            []waits
	early              map[int]string
	owes               bool
}

type waits struct {
	seq       int
	body      string
	sent, due bool
	ago       int
}

func (m *model) send(b []byte) api.Errno {
	switch {
	case len(b) == 0:
		return api.ErrArg
	case len(b) > 16320:
		return api.ErrLong
	case len(m.waiting) == 32:
		return api.ErrFull
	}
	m.waiting = append(m.waiting, waits{seq: m.next, body: string(b)})
	m.next++
	return api.OK
}

func (m *model) take(f api.Frame) ([][]byte, api.Errno) {
	if f.Conn != m.conn {
		return nil, api.ErrConn
	}
	if f.Seq < 0 || f.Ack < 0 || f.Seq == 0 && len(f.Body) > 0 || f.Seq != 0 && len(f.Body) == 0 {
		return nil, api.ErrForm
	}
	for len(m.waiting) > 0 && m.waiting[0].sent && m.waiting[0].seq <= f.Ack {
		m.waiting = m.waiting[1:]
	}
	if f.Seq == 0 {
		return nil, api.OK
	}
	m.owes = true
	if _, there := m.early[f.Seq]; f.Seq >= m.wanted && f.Seq <= m.wanted+3 && !there {
		m.early[f.Seq] = string(f.Body)
	}
	var l [][]byte
	for {
		b, there := m.early[m.wanted]
		if !there {
			return l, api.OK
		}
		l = append(l, []byte(b))
		delete(m.early, m.wanted)
		m.wanted++
	}
}

func (m *model) tick() {
	for i := range m.waiting {
		w := &m.waiting[i]
		if w.sent {
			w.ago++
		}
		if w.ago == 3 {
			w.due, w.ago = true, 0
		}
	}
}

func (m *model) out() []api.Frame {
	var l []api.Frame
	for i := range m.waiting {
		w := &m.waiting[i]
		if i < 4 && (!w.sent || w.due) {
			l = append(l, api.Frame{Conn: m.conn, Seq: w.seq, Ack: m.wanted - 1, Body: []byte(w.body)})
			w.sent, w.due, w.ago = true, false, 0
		}
	}
	if len(l) == 0 && m.owes {
		l = append(l, api.Frame{Conn: m.conn, Ack: m.wanted - 1})
	}
	m.owes = false
	return l
}

func (m *model) twin() *model {
	twin := *m
	twin.waiting = append([]waits(nil), m.waiting...)
	twin.early = map[int]string{}
	for k, v := range m.early {
		twin.early[k] = v
	}
	return &twin
}

// Ends that are asked anything at random are what the chapter's words make of it; so are their clones, and what they were cloned of.
func TestP142AsTheWordsSay(t *testing.T) {
	type pair struct {
		c *Channel
		m *model
	}
	r := rand.New(rand.NewSource(142))
	for round := range 60 {
		l := []pair{{end(t), &model{conn: conn, next: 1, wanted: 1, early: map[int]string{}}}}
		for step := range 600 {
			i := r.Intn(len(l))
			c, m := l[i].c, l[i].m
			got, want := "", ""
			switch k := r.Intn(40); {
			case k < 14:
				b := make([]byte, r.Intn(4))
				r.Read(b)
				got, want = fmt.Sprint(c.Send(b)), fmt.Sprint(m.send(b))
			case k < 28:
				f := api.Frame{Conn: conn - r.Intn(20)/19, Seq: max(m.wanted+r.Intn(8)-3, 0), Ack: m.next - r.Intn(7), Body: []byte{byte(step), byte(round)}}
				if r.Intn(4) == 0 {
					f.Body = nil
					f.Seq *= r.Intn(4) / 3
				}
				told, bad := c.Take(f)
				toldToo, badToo := m.take(f)
				got, want = fmt.Sprintf("%q %d", told, bad), fmt.Sprintf("%q %d", toldToo, badToo)
			case k < 33:
				m.tick()
				got, want = fmt.Sprint(c.Tick()), fmt.Sprint(api.OK)
			case k < 39:
				got, want = fmt.Sprint(c.Out()), fmt.Sprint(m.out())
			case len(l) < 4:
				l = append(l, pair{c.Clone(), m.twin()})
			}
			if got != want {
				t.Fatalf("round %d, step %d: %s, not %s", round, step, got, want)
			}
			for _, p := range l {
				if p.c.Conn() != conn || p.c.Waiting() != len(p.m.waiting) || p.c.Taken() != p.m.wanted-1 || p.c.Calm() != (len(p.m.waiting) == 0 && !p.m.owes) {
					t.Fatalf("round %d, step %d: %d wait, %d were told, calm %t", round, step, p.c.Waiting(), p.c.Taken(), p.c.Calm())
				}
			}
		}
	}
}

// way is frames that are on their way from one end to another, and what the first one was given, the second one told.
type way struct {
	from, to    *Channel
	frames      []api.Frame
	given, told []string
}

func (w *way) give(n int) {
	b := fmt.Append(nil, n)
	if w.from.Send(b) == api.OK {
		w.given = append(w.given, string(b))
	}
}

// put puts on the way what its end sends; no frame is above the fourth that was not acknowledged.
func (w *way) put(t *testing.T) {
	t.Helper()
	first := len(w.given) - w.from.Waiting() + 1
	for _, f := range w.from.Out() {
		if f.Seq > 0 && (f.Seq < first || f.Seq > first+3 || string(f.Body) != w.given[f.Seq-1]) {
			t.Fatalf("frame %d, where %d is the first one: %q", f.Seq, first, f.Body)
		}
		w.frames = append(w.frames, f)
	}
}

// come lets the i-th frame come, and takes it off the way, unless it is doubled.
func (w *way) come(t *testing.T, i int, double bool) {
	t.Helper()
	f := w.frames[i]
	if !double {
		w.lose(i)
	}
	l, bad := w.to.Take(f)
	if bad != api.OK {
		t.Fatal(bad)
	}
	for _, b := range l {
		w.told = append(w.told, string(b))
	}
	if len(w.told) > len(w.given) || !reflect.DeepEqual(w.told, w.given[:len(w.told):len(w.told)]) && len(w.told) > 0 {
		t.Fatalf("told %q of %q", w.told, w.given)
	}
	if w.to.Taken() != len(w.told) {
		t.Fatalf("%d were told, not %d", len(w.told), w.to.Taken())
	}
}

func (w *way) lose(i int) { w.frames = append(w.frames[:i], w.frames[i+1:]...) }

// both is a connection: two ends, and both ways.
func both(t *testing.T) []*way {
	a, b := end(t), end(t)
	return []*way{{from: a, to: b}, {from: b, to: a}}
}

// disturb lets anything happen on both ways that a way may do.
func disturb(t *testing.T, r *rand.Rand, l []*way, steps int) {
	for step := range steps {
		w := l[r.Intn(2)]
		i := 0
		if len(w.frames) > 0 {
			i = r.Intn(len(w.frames))
		}
		switch k := r.Intn(24); {
		case k < 5:
			w.give(step)
		case k < 11:
			w.put(t)
		case k < 14:
			w.from.Tick()
		case len(w.frames) == 0:
		case k < 18:
			w.come(t, i, false)
		case k < 20:
			w.come(t, 0, false)
		case k < 22:
			w.come(t, i, true)
		case k < 23 || len(w.frames) > 40:
			w.lose(i)
		}
	}
}

func TestP145Beginning(t *testing.T) {
	told := 0
	for seed := range int64(150) {
		l := both(t)
		disturb(t, rand.New(rand.NewSource(seed)), l, 1200)
		told += len(l[0].told) + len(l[1].told)
	}
	if told < 5000 {
		t.Errorf("only %d were told", told)
	}
}

// Whatever happened: once nothing is lost any more, some ticks bring all.
func TestP146All(t *testing.T) {
	for seed := range int64(150) {
		l := both(t)
		disturb(t, rand.New(rand.NewSource(1000+seed)), l, 400)
		for range 60 {
			for _, w := range l {
				w.from.Tick()
				w.put(t)
				for len(w.frames) > 0 {
					w.come(t, len(w.frames)-1, false)
				}
			}
		}
		for _, w := range l {
			if !reflect.DeepEqual(w.told, w.given) && len(w.given) > 0 || !w.from.Calm() {
				t.Fatalf("seed %d: %d of %d came, calm %t", seed, len(w.told), len(w.given), w.from.Calm())
			}
		}
	}
}

// Of three frames two are lost: it takes longer, and all comes.
func TestP146SomeLost(t *testing.T) {
	l := both(t)
	for i := range 30 {
		l[0].give(i)
		l[1].give(100 + i)
	}
	r := rand.New(rand.NewSource(146))
	for range 2000 {
		for _, w := range l {
			w.from.Tick()
			w.put(t)
			for len(w.frames) > 0 {
				if r.Intn(3) == 0 {
					w.come(t, 0, false)
				} else {
					w.lose(0)
				}
			}
		}
	}
	for _, w := range l {
		if len(w.told) != 30 || w.from.Waiting() != 0 {
			t.Errorf("%d came, %d wait", len(w.told), w.from.Waiting())
		}
	}
}

func TestP147Window(t *testing.T) {
	c := end(t)
	send(t, c, 1, 10)
	wants(t, "the first four", out(c), "7:1/0=1 7:2/0=2 7:3/0=3 7:4/0=4 ")
	wants(t, "no more", out(c), "")
	tick(c, 3)
	wants(t, "these again", out(c), "7:1/0=1 7:2/0=2 7:3/0=3 7:4/0=4 ")
	tick(c, 2)
	take(t, c, ack(2))
	wants(t, "two more", out(c), "7:5/0=5 7:6/0=6 ")
	tick(c, 1)
	wants(t, "the older ones again", out(c), "7:3/0=3 7:4/0=4 ")
	take(t, c, ack(4))
	tick(c, 2)
	wants(t, "all four", out(c), "7:5/0=5 7:6/0=6 7:7/0=7 7:8/0=8 ")
	take(t, c, ack(8))
	wants(t, "the last ones", out(c), "7:9/0=9 7:10/0=10 ")
	take(t, c, ack(10))
	tick(c, 5)
	wants(t, "none", out(c), "")
}

func TestP148Again(t *testing.T) {
	a, b := end(t), end(t)
	var all []api.Frame
	for i := range 40 {
		send(t, a, i+1, i+1)
		f := a.Out()
		all = append(all, f...)
		wants(t, "first", take(t, b, f[0]), fmt.Sprintf("[%d]", i+1))
		for _, f := range all {
			wants(t, "again", take(t, b, f), "[]")
		}
		take(t, a, b.Out()[0])
	}
	if b.Taken() != 40 {
		t.Error(b.Taken())
	}
}

// What came early and is told is kept no more, nor is what was acknowledged.
func TestKeptNoLonger(t *testing.T) {
	c := end(t)
	send(t, c, 1, 4)
	out(c)
	room := c.waiting
	take(t, c, carry(2, 2))
	take(t, c, carry(1, 3))
	if len(c.early) != 0 || len(c.waiting) != 1 {
		t.Error(len(c.early), len(c.waiting))
	}
	for _, p := range room[1:] {
		if p.body != nil {
			t.Errorf("body %d is kept", p.seq)
		}
	}
}

func TestMemory(t *testing.T) {
	c := end(t)
	given := append([]byte("body"), 7, 7, 7)[:4]
	c.Send(given)
	f := api.Frame{Conn: conn, Seq: 2, Body: append([]byte("early"), 7, 7, 7)[:5]}
	take(t, c, f)
	twin := c.Clone()
	clear(given[:7])
	clear(f.Body[:8])
	one := c.Out()
	clear(one[0].Body[:cap(one[0].Body)])
	tick(c, 3)
	wants(t, "what is sent again", out(c), "7:1/0=body ")
	wants(t, "what the clone sends", out(twin), "7:1/0=body ")
	l, _ := c.Take(carry(1, 0))
	if len(l) != 2 || string(l[1]) != "early" {
		t.Fatalf("%q", l)
	}
	for _, b := range l {
		clear(b[:cap(b)])
	}
	wants(t, "what came early to the clone", take(t, twin, carry(1, 0)), "[1 early]")
	next := carry(3, 0)
	l, _ = c.Take(next)
	clear(l[0][:cap(l[0])])
	if string(next.Body) != "3" {
		t.Errorf("an argument has changed: %q", next.Body)
	}
}

// A clone goes its own way, and so does what it was cloned of.
func TestP144Clone(t *testing.T) {
	c := end(t)
	send(t, c, 1, 5)
	out(c)
	tick(c, 2)
	take(t, c, carry(2, 1))
	twin := c.Clone()
	if twin.Conn() != conn || twin.Waiting() != 4 || twin.Taken() != 0 || twin.Calm() {
		t.Error(twin.Waiting(), twin.Taken())
	}
	tick(c, 1)
	wants(t, "later", out(c), "7:2/0=2 7:3/0=3 7:4/0=4 7:5/0=5 ")
	wants(t, "the clone", out(twin), "7:5/0=5 ")
	send(t, c, 6, 7)
	send(t, twin, 6, 6)
	wants(t, "told", take(t, c, carry(1, 4)), "[1 2]")
	if twin.Waiting() != 5 || twin.Taken() != 0 || c.Waiting() != 3 {
		t.Error(twin.Waiting(), twin.Taken(), c.Waiting())
	}
	wants(t, "told to the clone", take(t, twin, carry(1, 0)), "[1 2]")
	tick(twin, 1)
	wants(t, "what is due at the clone", out(twin), "7:2/2=2 7:3/2=3 7:4/2=4 ")
	take(t, c, ack(9))
	if again := twin.Clone(); again == twin || again.Waiting() != 5 {
		t.Error("a clone's clone")
	}
}

// Many bodies take time by their number alone, and an end holds no more than what waits.
func TestMany(t *testing.T) {
	a, b := end(t), end(t)
	const many = 200000
	for i := range many {
		if a.Send([]byte{byte(i)}) != api.OK {
			t.Fatal(i)
		}
		for _, f := range a.Out() {
			if l, _ := b.Take(f); len(l) != 1 || l[0][0] != byte(i) {
				t.Fatal(i, l)
			}
		}
		for _, f := range b.Out() {
			a.Take(f)
		}
	}
	if b.Taken() != many || !a.Calm() || !b.Calm() || cap(a.waiting) > 64 {
		t.Error(b.Taken(), a.Calm(), b.Calm(), cap(a.waiting))
	}
}
