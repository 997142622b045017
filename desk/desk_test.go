package desk

import (
	"fmt"
	"math"
	"math/rand"
	"slices"
	"testing"

	"sealskin/api"
	"sealskin/lattice"
)

// house is a policy of three labels, of 2, 1 and 0 seats, with three, two and one clients.
func house() api.Policy {
	p := api.Policy{
		Labels: []api.Label{{}, {Level: 1}, {Level: 2}},
		Quotas: []api.Quota{{Seats: 2}, {Seats: 1}, {}},
	}
	for _, label := range []int{0, 1, 0, 1, 0, 2} {
		p.Entries = append(p.Entries, api.Entry{Label: label, Secret: "s"})
	}
	return p
}

func fresh(t *testing.T) *Desk {
	t.Helper()
	d, bad := New(house())
	if d == nil || bad != api.OK {
		t.Fatal(d, bad)
	}
	return d
}

// does wants several calls to be OK.
func does(t *testing.T, l ...api.Errno) {
	t.Helper()
	for i, bad := range l {
		if bad != api.OK {
			t.Errorf("call %d: %d", i, bad)
		}
	}
}

func is(t *testing.T, d *Desk, who, conn int, open bool) {
	t.Helper()
	if c, o := d.State(who); c != conn || o != open {
		t.Errorf("client %d: connection %d, open %v", who, c, o)
	}
}

func fails(t *testing.T, what string, got, want api.Errno) {
	t.Helper()
	if got != want {
		t.Errorf("%s: %d, not %d", what, got, want)
	}
}

func tick(d *Desk, n int) (over []int) {
	for range n {
		over = append(over, d.Tick()...)
	}
	return over
}

// look is all that a desk tells of itself without a change.
func look(d *Desk) string {
	s := ""
	for who := -1; who <= 6; who++ {
		conn, open := d.State(who)
		s += fmt.Sprint(conn, open, d.Locked(who), " ")
		for _, n := range []int{0, 1, 2, 5, api.MaxIndex} {
			fresh, bad := d.Knock(who, n)
			s += fmt.Sprint(fresh, int(bad), " ")
		}
	}
	for label := -1; label <= 3; label++ {
		s += fmt.Sprint(d.Seats(label), " ")
	}
	return s
}

func TestP181New(t *testing.T) {
	d := fresh(t)
	for _, i := range []int{-1, 0, 1, 5, 6, 7, math.MinInt, math.MaxInt} {
		is(t, d, i, 0, false)
		if d.Locked(i) != 0 || d.Seats(i) != 0 {
			t.Errorf("%d: %d, %d", i, d.Locked(i), d.Seats(i))
		}
	}
	wrong := []api.Policy{{}, house(), house(), house()}
	wrong[1].Entries[0].Label = 3
	wrong[2].Quotas[1].Seats = -1
	wrong[3].Labels[1] = wrong[3].Labels[0]
	for i, p := range wrong {
		if d, bad := New(p); d != nil || bad != lattice.Right(p) || bad != api.ErrPolicy {
			t.Error(i, d, bad)
		}
	}
}

func TestP181Memory(t *testing.T) {
	p := house()
	d, _ := New(p)
	p.Entries[0].Label, p.Quotas[0].Seats = 2, 0
	does(t, d.Begin(0, 1), d.Open(0))
	if d.Seats(0) != 1 || d.Seats(2) != 0 {
		t.Error("it hangs on what was handed in")
	}
	over := tick(d, 24)
	over[0] = 5
	does(t, d.Open(0))
	if again := tick(d, 24); !slices.Equal(again, []int{0}) {
		t.Error("it hangs on what was handed out", again)
	}
}

func TestP181Seats(t *testing.T) {
	d := fresh(t)
	does(t, d.Begin(0, 1), d.Begin(2, 1), d.Begin(1, 1), d.Open(0))
	if d.Seats(0) != 1 || d.Seats(1) != 0 {
		t.Error(d.Seats(0), d.Seats(1))
	}
	does(t, d.Open(2), d.Open(1), d.Shut(0))
	if d.Seats(0) != 1 || d.Seats(1) != 1 || d.Seats(2) != 0 {
		t.Error(d.Seats(0), d.Seats(1), d.Seats(2))
	}
}

func TestP182NoClient(t *testing.T) {
	d := fresh(t)
	ahead := look(d)
	for _, who := range []int{-1, 6, 7, math.MinInt, math.MaxInt} {
		fresh, bad := d.Knock(who, 0)
		if fresh || bad != api.ErrArg {
			t.Error(who, fresh, bad)
		}
		for i, bad := range []api.Errno{d.Wrong(who), d.Begin(who, 1), d.Begin(who, 0), d.Open(who), d.Heard(who), d.Shut(who)} {
			fails(t, fmt.Sprintf("client %d, call %d", who, i), bad, api.ErrArg)
		}
	}
	if look(d) != ahead {
		t.Error("something has changed")
	}
}

func TestP182Knock(t *testing.T) {
	d := fresh(t)
	does(t, d.Begin(0, 5))
	for _, x := range []struct {
		who, conn int
		fresh     bool
		bad       api.Errno
	}{
		{0, 5, false, api.OK}, {0, 6, true, api.OK}, {0, 4, false, api.ErrConn}, {0, 1, false, api.ErrConn}, {0, 0, false, api.ErrConn}, {0, -1, false, api.ErrConn},
		{0, 1 << 40, true, api.OK}, {0, 1<<40 + 1, false, api.ErrConn}, {0, math.MaxInt, false, api.ErrConn}, {0, math.MinInt, false, api.ErrConn},
		{1, 1, true, api.OK}, {1, 0, false, api.ErrConn}, {1, 1 << 40, true, api.OK}, {1, 1<<40 + 1, false, api.ErrConn},
	} {
		ahead := look(d)
		if fresh, bad := d.Knock(x.who, x.conn); fresh != x.fresh || bad != x.bad {
			t.Errorf("%+v: %v, %d", x, fresh, bad)
		}
		if look(d) != ahead {
			t.Errorf("%+v: something has changed", x)
		}
	}
	does(t, d.Wrong(0), d.Wrong(0), d.Wrong(0))
	for conn, want := range map[int]api.Errno{4: api.ErrConn, 5: api.OK, 6: api.ErrLocked, 1 << 40: api.ErrLocked, 1<<40 + 1: api.ErrConn, 0: api.ErrConn} {
		if fresh, bad := d.Knock(0, conn); fresh || bad != want {
			t.Errorf("locked, %d: %v, %d", conn, fresh, bad)
		}
	}
}

func TestP182Wrong(t *testing.T) {
	d := fresh(t)
	does(t, d.Wrong(0), d.Wrong(0))
	tick(d, 50)
	if d.Locked(0) != 0 {
		t.Error("two are enough")
	}
	does(t, d.Wrong(0))
	if d.Locked(0) != 20 || d.Locked(2) != 0 {
		t.Error(d.Locked(0), d.Locked(2))
	}
	tick(d, 1)
	fails(t, "locked", d.Wrong(0), api.ErrLocked)
	if d.Locked(0) != 19 {
		t.Error("it is locked anew", d.Locked(0))
	}
	tick(d, 18)
	fails(t, "the last tick", d.Wrong(0), api.ErrLocked)
	tick(d, 1)
	does(t, d.Wrong(0), d.Wrong(0))
	if d.Locked(0) != 0 {
		t.Error("those ahead count")
	}
	does(t, d.Wrong(0))
	if d.Locked(0) != 20 {
		t.Error(d.Locked(0))
	}
}

func TestP182Begin(t *testing.T) {
	d := fresh(t)
	does(t, d.Begin(0, 3), d.Open(0))
	is(t, d, 0, 3, true)
	ahead := look(d)
	for conn, want := range map[int]api.Errno{3: api.ErrConn, 2: api.ErrConn, 0: api.ErrConn, 1<<40 + 1: api.ErrConn} {
		fails(t, fmt.Sprint(conn), d.Begin(0, conn), want)
	}
	if look(d) != ahead {
		t.Error("something has changed")
	}
	does(t, d.Wrong(0), d.Wrong(0), d.Begin(0, 4))
	is(t, d, 0, 4, false)
	if d.Seats(0) != 0 {
		t.Error("its seat is taken")
	}
	does(t, d.Wrong(0), d.Wrong(0))
	if d.Locked(0) != 0 {
		t.Error("what went wrong ahead of it counts")
	}
	does(t, d.Wrong(0))
	fails(t, "locked", d.Begin(0, 5), api.ErrLocked)
	fails(t, "locked, its own", d.Begin(0, 4), api.ErrConn)
	is(t, d, 0, 4, false)
	does(t, d.Open(0))
	tick(d, 20)
	does(t, d.Begin(0, 1<<40))
	is(t, d, 0, 1<<40, false)
	fails(t, "none is left", d.Begin(0, 1<<40), api.ErrConn)
}

func TestP183Open(t *testing.T) {
	d := fresh(t)
	fails(t, "no connection", d.Open(0), api.ErrShut)
	fails(t, "no connection, no seats", d.Open(5), api.ErrShut)
	for who := range 6 {
		does(t, d.Begin(who, 1))
	}
	does(t, d.Open(0), d.Open(0), d.Open(2), d.Open(2), d.Open(1))
	ahead := look(d)
	fails(t, "two seats", d.Open(4), api.ErrSeats)
	fails(t, "one seat", d.Open(3), api.ErrSeats)
	fails(t, "no seat", d.Open(5), api.ErrSeats)
	does(t, d.Open(0), d.Open(1), d.Open(2))
	if look(d) != ahead {
		t.Error("something has changed")
	}
	does(t, d.Shut(0), d.Open(4))
	fails(t, "the seat is gone", d.Open(0), api.ErrSeats)
	is(t, d, 0, 1, false)
	is(t, d, 4, 1, true)
}

// A second Open of a session says nothing of its silence.
func TestP183OpenAgain(t *testing.T) {
	d := fresh(t)
	does(t, d.Begin(0, 1), d.Open(0))
	tick(d, 23)
	does(t, d.Open(0))
	if over := d.Tick(); !slices.Equal(over, []int{0}) {
		t.Error(over)
	}
	does(t, d.Open(0))
	if over := tick(d, 23); len(over) != 0 {
		t.Error("the silence of the one ahead counts")
	}
	does(t, d.Shut(0), d.Open(0))
	if over := tick(d, 23); len(over) != 0 {
		t.Error("the silence of the one ahead counts")
	}
}

func TestP183HeardShut(t *testing.T) {
	d := fresh(t)
	fails(t, "heard", d.Heard(0), api.ErrShut)
	fails(t, "shut", d.Shut(0), api.ErrShut)
	does(t, d.Begin(0, 1))
	fails(t, "heard of a connection", d.Heard(0), api.ErrShut)
	fails(t, "shut of a connection", d.Shut(0), api.ErrShut)
	does(t, d.Open(0), d.Heard(0), d.Shut(0))
	is(t, d, 0, 1, false)
	fails(t, "shut twice", d.Shut(0), api.ErrShut)
	if over := tick(d, 30); len(over) != 0 {
		t.Error("a session that was shut is over", over)
	}
}

func TestP184Tick(t *testing.T) {
	d := fresh(t)
	for _, who := range []int{2, 1, 0} {
		does(t, d.Begin(who, 1), d.Open(who))
	}
	if over := tick(d, 3); len(over) != 0 {
		t.Error(over)
	}
	does(t, d.Heard(1))
	for i := range 20 {
		if over := d.Tick(); len(over) != 0 {
			t.Error(i, over)
		}
	}
	if over := d.Tick(); !slices.Equal(over, []int{0, 2}) {
		t.Error(over)
	}
	is(t, d, 0, 1, false)
	is(t, d, 1, 1, true)
	is(t, d, 2, 1, false)
	if over := tick(d, 2); len(over) != 0 {
		t.Error(over)
	}
	if over := d.Tick(); !slices.Equal(over, []int{1}) {
		t.Error(over)
	}
	if over := tick(d, 100); len(over) != 0 || d.Locked(0) != 0 {
		t.Error(over, d.Locked(0))
	}
}

func TestP184Nil(t *testing.T) {
	var none *Desk
	for _, d := range []*Desk{none, {}} {
		is(t, d, 0, 0, false)
		fresh, bad := d.Knock(0, 1)
		if fresh || bad != api.ErrNil || d.Locked(0) != 0 || d.Seats(0) != 0 || len(d.Tick()) != 0 {
			t.Error(fresh, bad)
		}
		for _, who := range []int{-1, 0, 9} {
			for i, bad := range []api.Errno{d.Wrong(who), d.Begin(who, 1), d.Open(who), d.Heard(who), d.Shut(who)} {
				fails(t, fmt.Sprint("call ", i), bad, api.ErrNil)
			}
		}
	}
}

// work is something that is done to a desk, for a client or (who -1) for all.
type work struct{ kind, who, conn int }

func (w work) do(d *Desk) string {
	switch w.kind {
	case 0:
		return fmt.Sprint(d.Begin(w.who, w.conn))
	case 1:
		return fmt.Sprint(d.Open(w.who))
	case 2:
		return fmt.Sprint(d.Heard(w.who))
	case 3:
		return fmt.Sprint(d.Shut(w.who))
	case 4:
		return fmt.Sprint(d.Wrong(w.who))
	}
	return fmt.Sprint(d.Tick())
}

func someWork(r *rand.Rand) work {
	return work{r.Intn(14), r.Intn(6), 1 + r.Intn(400)}
}

// plain is the chapter's words once more, each client by itself.
type plain struct {
	conn, silent, wrong, locked int
	open                        bool
}

func (w work) plainly(all []plain, labels, seats []int) string {
	p := &all[w.who]
	switch {
	case w.kind == 0 && w.conn <= p.conn, w.kind == 0 && p.locked > 0:
		if w.conn <= p.conn {
			return fmt.Sprint(api.ErrConn)
		}
		return fmt.Sprint(api.ErrLocked)
	case w.kind == 0:
		*p = plain{conn: w.conn}
	case w.kind == 1 && p.conn == 0, (w.kind == 2 || w.kind == 3) && !p.open:
		return fmt.Sprint(api.ErrShut)
	case w.kind == 1 && !p.open:
		for i := range all {
			if all[i].open && labels[i] == labels[w.who] {
				seats[labels[w.who]]--
			}
		}
		if seats[labels[w.who]] <= 0 {
			return fmt.Sprint(api.ErrSeats)
		}
		p.open, p.silent = true, 0
	case w.kind == 2:
		p.silent = 0
	case w.kind == 3:
		p.open = false
	case w.kind == 4 && p.locked > 0:
		return fmt.Sprint(api.ErrLocked)
	case w.kind == 4:
		if p.wrong++; p.wrong == 3 {
			p.wrong, p.locked = 0, 20
		}
	case w.kind > 4:
		return fmt.Sprint(passes(all))
	}
	return fmt.Sprint(api.OK)
}

func passes(all []plain) (over []int) {
	for i := range all {
		p := &all[i]
		if p.locked > 0 {
			p.locked--
		}
		if !p.open {
			continue
		}
		if p.silent++; p.silent == 24 {
			p.open = false
			over = append(over, i)
		}
	}
	return over
}

func TestP184Model(t *testing.T) {
	for seed := range int64(300) {
		r := rand.New(rand.NewSource(seed))
		d, all := fresh(t), make([]plain, 6)
		for range 400 {
			w := someWork(r)
			got, want := w.do(d), w.plainly(all, []int{0, 1, 0, 1, 0, 2}, []int{2, 1, 0})
			if got != want {
				t.Fatalf("%d: %+v: %s, not %s", seed, w, got, want)
			}
			for who, p := range all {
				is(t, d, who, p.conn, p.open)
				if d.Locked(who) != p.locked {
					t.Fatalf("%d: %+v: locked for %d, not %d", seed, w, d.Locked(who), p.locked)
				}
			}
		}
	}
}

func TestP185Seats(t *testing.T) {
	full := 0
	for seed := range int64(200) {
		r := rand.New(rand.NewSource(seed))
		d := fresh(t)
		for range 400 {
			someWork(r).do(d)
			for label, most := range []int{2, 1, 0} {
				if d.Seats(label) > most {
					t.Fatalf("%d: label %d has %d", seed, label, d.Seats(label))
				}
			}
			if d.Seats(0) == 2 && d.Seats(1) == 1 {
				full++
			}
		}
	}
	if full < 200 {
		t.Errorf("all seats were taken %d times alone", full)
	}
}

// What clients of a label see of a desk is the same without all that is done for clients of other labels; and, where there are seats enough, without what is done for others of their own.
func TestP186Apart(t *testing.T) {
	labels := []int{0, 1, 0, 1, 0, 2}
	p := house()
	p.Quotas[0].Seats = 3
	for seed := range int64(200) {
		r := rand.New(rand.NewSource(seed))
		whole, _ := New(p)
		label, _ := New(p)
		alone, _ := New(p)
		for range 400 {
			w := someWork(r)
			w.do(whole)
			if w.kind > 4 || labels[w.who] == 0 {
				w.do(label)
			}
			if w.kind > 4 || w.who == 2 {
				w.do(alone)
			}
			for _, who := range []int{0, 2, 4} {
				conn, open := label.State(who)
				is(t, whole, who, conn, open)
				if whole.Locked(who) != label.Locked(who) {
					t.Fatal(seed, who)
				}
			}
			conn, open := alone.State(2)
			is(t, whole, 2, conn, open)
			if whole.Locked(2) != alone.Locked(2) || whole.Seats(0) != label.Seats(0) {
				t.Fatal(seed)
			}
		}
	}
}

func TestP187Locked(t *testing.T) {
	for seed := range int64(200) {
		r := rand.New(rand.NewSource(seed))
		d := fresh(t)
		since := make([]int, 6) // ticks that each was locked for
		for range 400 {
			w := someWork(r)
			locked := d.Locked(w.who) > 0
			ahead, _ := d.State(w.who)
			w.do(d)
			if conn, _ := d.State(w.who); locked && conn != ahead {
				t.Fatalf("%d: %d began %d", seed, w.who, conn)
			}
			for who := range since {
				switch {
				case d.Locked(who) == 0:
					since[who] = 0
				case w.kind > 4:
					since[who]++
				}
				if since[who] >= 20 || d.Locked(who) > 20 {
					t.Fatalf("%d: %d is locked for %d ticks", seed, who, since[who])
				}
			}
		}
	}
}

func TestP188Heard(t *testing.T) {
	r := rand.New(rand.NewSource(1))
	d := fresh(t)
	does(t, d.Begin(0, 1), d.Open(0), d.Begin(2, 1), d.Open(2))
	for range 200 {
		if over := tick(d, r.Intn(24)); slices.Contains(over, 0) {
			t.Fatal("it was heard in time")
		}
		does(t, d.Heard(0))
	}
	is(t, d, 0, 1, true)
	is(t, d, 2, 1, false)
}
