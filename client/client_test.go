package client

import (
	"fmt"
	"math"
	"strings"
	"testing"

	"sealskin/api"
	"sealskin/core"
	"sealskin/edit"
	"sealskin/frame"
)

func TestP201New(t *testing.T) {
	p := pair()
	for who, secret := range []string{"s", "t"} {
		c, bad := New(p, who)
		if bad != api.OK || c.Secret() != secret || c.Pending() || len(c.Told()) != 0 || len(c.Peers()) != 0 || len(c.Out()) != 0 {
			t.Error(who, bad)
		}
		isView(t, c, "", "", 0)
		isState(t, c, api.Off, 0)
		if c.Rev() != 0 {
			t.Error(c.Rev())
		}
	}
	for _, who := range []int{-1, 2, 8, math.MinInt, math.MaxInt} {
		if c, bad := New(p, who); c != nil || bad != api.ErrArg {
			t.Error(who, c, bad)
		}
	}
	p.Quotas[0].Ops = -1
	for _, who := range []int{0, 9} {
		if c, bad := New(p, who); c != nil || bad != api.ErrPolicy {
			t.Error(who, c, bad)
		}
	}
}

func TestP201Tells(t *testing.T) {
	c, h := inside(t, "abc")
	h.says(peer(5, 1, 1), peer(1, 1, 0), peer(3, 1, 2))
	isPeers(t, c, 1, 0, 3, 2, 5, 1)
	does(t, c.Edit(3, 0, "d"))
	if !c.Pending() {
		t.Error("the edit on its way is pending")
	}
	h.says(h.commits())
	does(t, c.Edit(0, 1, ""))
	h.says(refuses(2, api.ErrWrite))
	isTold(t, c, 1, 0, 2, int(api.ErrWrite))
	told, peers := c.Told(), c.Peers()
	told[0].Seq, peers[0].At = 9, 9
	_ = append(told[:1:cap(told)], api.Told{Seq: 9})
	isTold(t, c, 1, 0, 2, int(api.ErrWrite))
	isPeers(t, c, 1, 0, 3, 1, 5, 0)
}

func TestP202Login(t *testing.T) {
	c := fresh(t)
	does(t, c.Login("s"))
	isState(t, c, api.Asking, 1)
	h := greets(t, c)
	saysThat(t, "login", h.hears(), "login 0")
	does(t, c.Login("s"))
	isState(t, c, api.Asking, 2)
	h = greets(t, c)
	saysThat(t, "the next one", h.hears(), "login 0")
	h.says(api.Msg{Kind: api.MHello})
	h.says(h.step(1, 1, 0, 0, "ab"), h.step(1, 2, 0, 0, ""))
	c, h = inside(t, "ab")
	does(t, c.Login("s"))
	isState(t, c, api.Asking, 2)
	isView(t, c, "ab", "ab", 0)
	saysThat(t, "its revision", greets(t, c).hears(), "login 1")
	// By the key of any secret, whatever its length.
	for _, secret := range []string{"", "other", strings.Repeat("x", 1000), "\xff"} {
		does(t, c.Login(secret))
		_, conn := c.State()
		for _, b := range c.Out() {
			if f, bad := frame.Unwrap(frame.Key(secret, 0, conn), true, b); bad != api.OK || f.Conn != conn || f.Seq != 1 {
				t.Error(f, bad)
			}
		}
	}
	other, _ := New(pair(), 1)
	does(t, other.Login("t"))
	if _, bad := frame.Unwrap(frame.Key("t", 1, 1), true, other.Out()[0]); bad != api.OK {
		t.Error(bad)
	}
}

func TestP202LoginRange(t *testing.T) {
	c := fresh(t)
	c.conn = 1<<40 - 1 // so many connections nobody can begin: the number is set by hand
	does(t, c.Login("s"))
	isState(t, c, api.Asking, 1<<40)
	ahead := shows(c)
	fails(t, "none is left", c.Login("s"), api.ErrRange)
	if shows(c) != ahead {
		t.Error("something has changed")
	}
	saysThat(t, "the last one", greets(t, c).hears(), "login 0")
}

func TestP202Logout(t *testing.T) {
	c := fresh(t)
	fails(t, "off", c.Logout(), api.ErrShut)
	does(t, c.Login("s"), c.Logout())
	isState(t, c, api.Off, 1)
	h := greets(t, c)
	saysThat(t, "asking", h.hears(), "login 0, bye 0")
	fails(t, "twice", c.Logout(), api.ErrShut)
	h.says(api.Msg{Kind: api.MHello})
	isState(t, c, api.Off, 1)
	c, h = inside(t, "ab")
	does(t, c.Edit(0, 0, "x"), c.Logout())
	isState(t, c, api.Off, 1)
	isTold(t, c)
	saysThat(t, "on", h.hears(), "edit 1 of 1: x 2, bye 0")
	isView(t, c, "xab", "ab", 1)
	if !c.Pending() {
		t.Error("what is on its way stays so")
	}
	h.says(h.commits())
	isView(t, c, "xab", "ab", 1)
}

func TestP202Move(t *testing.T) {
	c, h := inside(t, "aé")
	does(t, c.Logout(), c.Edit(2, 0, "日"))
	for _, at := range []int{0, 1, 2, 3} {
		does(t, c.Move(at))
		if c.Cursor() != at {
			t.Error(at, c.Cursor())
		}
	}
	for _, at := range []int{-1, 4, 6, math.MinInt, math.MaxInt} {
		fails(t, fmt.Sprint(at), c.Move(at), api.ErrArg)
		if c.Cursor() != 3 {
			t.Error(at, c.Cursor())
		}
	}
	h.hears()
}

func TestP203Edit(t *testing.T) {
	c, h := inside(t, "abc")
	h.says(peer(1, 1, 1))
	does(t, c.Move(1), c.Edit(1, 1, "xy"))
	isView(t, c, "axyc", "abc", 3) // what is put just at one's own cursor stands ahead of it
	isPeers(t, c, 1, 1)            // and behind that of another one
	saysThat(t, "it goes", h.hears(), "edit 1 of 1: 1 xy -1 1")
	does(t, c.Edit(4, 0, "é"), c.Edit(0, 2, ""))
	isView(t, c, "ycé", "abc", 1)
	isPeers(t, c, 1, 0)
	saysThat(t, "one alone is on its way", h.hears(), "")
	ahead := shows(c)
	for _, x := range []struct {
		at, n int
		text  string
		want  api.Errno
	}{
		{-1, 0, "a", api.ErrEdit}, {4, 0, "a", api.ErrEdit}, {0, 4, "a", api.ErrEdit}, {3, 1, "", api.ErrEdit}, {0, -1, "a", api.ErrEdit}, {0, 0, "\xff", api.ErrEdit}, {math.MaxInt, math.MaxInt, "", api.ErrEdit}, {math.MinInt, 1, "", api.ErrEdit}, {1, math.MaxInt, "", api.ErrEdit},
		{0, 0, strings.Repeat("a", 257), api.ErrLong}, {0, 0, strings.Repeat("a", 1<<20), api.ErrLong},
	} {
		fails(t, fmt.Sprintf("%d %d %.5s", x.at, x.n, x.text), c.Edit(x.at, x.n, x.text), x.want)
		if shows(c) != ahead {
			t.Error("something has changed")
		}
	}
	h.says(h.commits())
	isTold(t, c, 1, 0)
	isView(t, c, "ycé", "axyc", 1)
	saysThat(t, "then the rest, as one", h.hears(), "edit 2 of 2: -2 2 é")
}

// An edit that changes nothing is none to be sent, but it can be undone.
func TestP203EditNothing(t *testing.T) {
	c, h := inside(t, "ab")
	does(t, c.Edit(1, 0, ""))
	if c.Pending() {
		t.Error("it is pending")
	}
	saysThat(t, "nothing", h.hears(), "")
	does(t, c.Undo(), c.Redo())
	does(t, c.Edit(1, 0, "x"), c.Edit(1, 1, ""))
	isView(t, c, "ab", "ab", 0)
}

func TestP203Small(t *testing.T) {
	base := strings.Repeat("0123456789", 20)
	c, h := inside(t, base)
	c.Logout()
	for i := range 64 {
		does(t, c.Edit(3*i, 0, "x"))
	}
	ahead := shows(c)
	fails(t, "a 65th place", c.Edit(3*64+1, 0, "x"), api.ErrLong)
	if shows(c) != ahead {
		t.Error("something has changed")
	}
	does(t, c.Edit(0, 0, "x"), c.Edit(0, 1, ""))
	does(t, c.Edit(0, 0, strings.Repeat("y", 192)))
	fails(t, "a 257th code point", c.Edit(0, 0, "y"), api.ErrLong)
	does(t, c.Edit(0, 1, "z"))
	if !core.Small(c.buffer) || len(c.View()) != 200+256 {
		t.Error(len(c.View()))
	}
	c, h = inside(t, base)
	c.Logout()
	does(t, c.Edit(0, 127, ""), c.Edit(0, 1, ""))
	fails(t, "a 129th code point", c.Edit(0, 1, ""), api.ErrLong)
	does(t, c.Edit(0, 0, "x"), c.Edit(0, 1, ""))
	isView(t, c, base[128:], base, 0)
	h.hears()
	// What is on its way does not count.
	h = lets(t, c, 0)
	does(t, c.Edit(0, 72, ""))
	isView(t, c, "", base, 0)
	saysThat(t, "all of it", h.hears(), "edit 1 of 1: -128 72")
	h.says(h.commits())
	saysThat(t, "and the rest", h.hears(), "edit 2 of 2: -72")
}

// pushes: off or asking nothing goes; let in, all goes as one.
func TestP203Push(t *testing.T) {
	c := fresh(t)
	does(t, c.Edit(0, 0, "ab"), c.Edit(1, 0, "x"))
	if len(c.Out()) != 0 || !c.Pending() {
		t.Error("it is off")
	}
	does(t, c.Login("s"), c.Edit(0, 0, "c"))
	h := greets(t, c)
	saysThat(t, "asking", h.hears(), "login 0")
	h.says(api.Msg{Kind: api.MHello, Seq: 6})
	saysThat(t, "in", h.hears(), "edit 7 of 0: caxb")
	does(t, c.Edit(0, 1, ""))
	h.says(h.step(1, 3, 0, 0, "__"))
	isView(t, c, "axb__", "__", 3)
	saysThat(t, "not yet", h.hears(), "")
	h.says(refuses(7, api.ErrQuota))
	isView(t, c, "__", "__", 2)
	if c.Pending() {
		t.Error("the buffer goes with it")
	}
	does(t, c.Edit(0, 0, "d"))
	saysThat(t, "the number is free", h.hears(), "edit 7 of 1: d 2")
}

func TestP203Undo(t *testing.T) {
	c := fresh(t)
	fails(t, "undo", c.Undo(), api.ErrNone)
	fails(t, "redo", c.Redo(), api.ErrNone)
	does(t, c.Edit(0, 0, "abc"), c.Move(1), c.Edit(1, 1, "xy"))
	isView(t, c, "axyc", "", 3)
	does(t, c.Undo())
	isView(t, c, "abc", "", 2) // put there, its own text stands ahead of the cursor
	does(t, c.Undo())
	isView(t, c, "", "", 0)
	fails(t, "no more", c.Undo(), api.ErrNone)
	does(t, c.Redo())
	isView(t, c, "abc", "", 3)
	does(t, c.Redo())
	isView(t, c, "axyc", "", 4)
	fails(t, "no more", c.Redo(), api.ErrNone)
	does(t, c.Undo(), c.Edit(0, 0, "_"))
	fails(t, "an edit forgets", c.Redo(), api.ErrNone)
	isView(t, c, "_abc", "", 4)
}

// What was undone goes to the server like any other edit; others' edits stay.
func TestP203UndoBehindOthers(t *testing.T) {
	c, h := inside(t, "ab")
	h.says(peer(1, 1, 2))
	does(t, c.Move(1), c.Edit(1, 0, "x"))
	saysThat(t, "done", h.hears(), "edit 1 of 1: 1 x 1")
	h.says(h.commits())
	h.says(h.step(1, 2, 0, 0, "yy"))
	isView(t, c, "yyaxb", "yyaxb", 4)
	isPeers(t, c, 1, 5)
	does(t, c.Undo())
	isView(t, c, "yyab", "yyaxb", 3)
	isPeers(t, c, 1, 4)
	saysThat(t, "undone", h.hears(), "edit 2 of 3: 3 -1 1")
	does(t, c.Redo())
	isView(t, c, "yyaxb", "yyaxb", 4)
	isPeers(t, c, 1, 5)
	h.says(h.commits())
	saysThat(t, "done again", h.hears(), "edit 3 of 4: 3 x 1")
	does(t, c.Move(0), c.Undo(), c.Redo())
	isView(t, c, "yyaxb", "yyab", 0)
}

// Where what is undone makes too much of the buffer, nothing has changed, the history too.
func TestP203UndoLong(t *testing.T) {
	c, h := inside(t, "ab")
	for range 3 {
		does(t, c.Edit(1, 0, strings.Repeat("x", 100)))
		h.says(h.commits())
	}
	does(t, c.Logout(), c.Undo())
	ahead := shows(c)
	for range 3 {
		fails(t, "200 are dropped", c.Undo(), api.ErrLong)
		if back, again := c.history.Len(); shows(c) != ahead || back != 2 || again != 1 || c.history.Size() != 202 {
			t.Error("something has changed", back, again)
		}
	}
	does(t, c.Redo())
	fails(t, "no more", c.Redo(), api.ErrNone)
	if c.View() != c.Base() {
		t.Error("it is not as it was")
	}
	h = lets(t, c, 3)
	h.says(h.commits()) // what was dropped, and put again
	for range 3 {
		does(t, c.Undo())
		h.says(h.commits())
	}
	isView(t, c, "ab", "ab", 0)
	does(t, c.Logout(), c.Redo(), c.Redo())
	ahead = shows(c)
	for range 3 {
		fails(t, "300 are put", c.Redo(), api.ErrLong)
		if back, again := c.history.Len(); shows(c) != ahead || back != 2 || again != 1 || c.history.Size() != 202 {
			t.Error("something has changed", back, again)
		}
	}
	does(t, c.Undo(), c.Undo())
	fails(t, "no more", c.Undo(), api.ErrNone)
	isView(t, c, "ab", "ab", 0)
}

func TestP203Down(t *testing.T) {
	c := fresh(t)
	fails(t, "off", c.Down(-1, -1, -1), api.ErrShut)
	does(t, c.Login("s"))
	fails(t, "asking", c.Down(0, 1, 0), api.ErrShut)
	c, h := inside(t, "aéc")
	does(t, c.Edit(0, 0, "x"))
	fails(t, "an edit is on its way", c.Down(0, 0, 99), api.ErrFull)
	h.hears()
	h.says(h.commits())
	ahead := shows(c)
	for _, x := range [][3]int{{0, 0, 0}, {0, -1, 0}, {-1, 1, 0}, {4, 1, 0}, {0, 5, 0}, {3, 2, 0}, {0, 1, -1}, {0, 1, 32}, {math.MaxInt, math.MaxInt, 0}, {math.MinInt, math.MinInt, 0}, {1, math.MaxInt, 0}, {math.MinInt, 1, 0}, {-1, 5, 0}} {
		fails(t, fmt.Sprint(x), c.Down(x[0], x[1], x[2]), api.ErrArg)
	}
	if shows(c) != ahead || len(h.hears()) != 0 {
		t.Error("something has changed")
	}
	does(t, c.Down(3, 1, 31))
	saysThat(t, "the last code point", h.hears(), "down 2 of 2: 3 1 to 31")
	if !c.Pending() {
		t.Error("it is not pending")
	}
	fails(t, "one is on its way", c.Down(0, 1, 0), api.ErrFull)
	h.says(h.commits())
	isTold(t, c, 1, 0, 2, 0)
	isView(t, c, "xaéc", "xaéc", 1)
	does(t, c.Down(0, 4, 0))
	saysThat(t, "all of it", h.hears(), "down 3 of 3: 0 4 to 0")
}

// What is typed while something is let down stands in the buffer, and goes behind it.
func TestP203DownAndEdit(t *testing.T) {
	c, h := inside(t, "ab")
	does(t, c.Down(0, 1, 0), c.Edit(2, 0, "x"))
	isView(t, c, "abx", "ab", 0)
	saysThat(t, "one alone", h.hears(), "down 1 of 1: 0 1 to 0")
	h.says(h.step(1, 4, 0, 0, "_"))
	isView(t, c, "_abx", "_ab", 0)
	h.says(refuses(1, api.ErrStale))
	isTold(t, c, 1, int(api.ErrStale))
	isView(t, c, "_abx", "_ab", 0)
	saysThat(t, "what was typed stays, and goes", h.hears(), "edit 1 of 2: 3 x")
	does(t, c.Undo())
	isView(t, c, "_ab", "_ab", 0)
}

func TestP204Errors(t *testing.T) {
	c := fresh(t)
	for _, b := range [][]byte{nil, {1}, make([]byte, 40), make([]byte, 1<<16)} {
		fails(t, fmt.Sprint(len(b)), c.Take(b), api.ErrForm)
	}
	wrap := func(secret string, up bool, conn, seq int) []byte {
		f := api.Frame{Conn: conn, Seq: seq}
		if seq > 0 {
			f.Body = []byte{1}
		}
		b, _ := frame.Wrap(frame.Key(secret, 0, conn), up, f)
		return b
	}
	fails(t, "no connection", c.Take(wrap("s", false, 1, 1)), api.ErrConn)
	does(t, c.Login("s"), c.Login("s"))
	h := greets(t, c)
	h.hears()
	ahead := shows(c)
	broken := wrap("s", false, 2, 1)
	broken[30] ^= 1
	for i, x := range []struct {
		b    []byte
		want api.Errno
	}{
		{nil, api.ErrForm}, {wrap("s", false, 2, 1)[:39], api.ErrForm},
		{wrap("s", false, 1, 1), api.ErrConn}, {wrap("s", false, 3, 1), api.ErrConn}, {wrap("x", true, 1, 1), api.ErrConn},
		{wrap("x", false, 2, 1), api.ErrKey}, {wrap("s", true, 2, 1), api.ErrKey}, {broken, api.ErrKey},
	} {
		fails(t, fmt.Sprint(i), c.Take(x.b), x.want)
		if shows(c) != ahead || len(c.Out()) != 0 {
			t.Errorf("%d: something has changed", i)
		}
	}
	h.says(api.Msg{Kind: api.MHello})
	isState(t, c, api.On, 2)
	// Bodies that are no messages say nothing, but they came.
	h.sends([]byte{1})
	h.says(h.step(1, 1, 0, 0, "a"))
	isView(t, c, "a", "a", 0)
}

// What came out of order is heeded in order.
func TestP204Order(t *testing.T) {
	c := fresh(t)
	does(t, c.Login("s"))
	h := greets(t, c)
	h.hears()
	var l [][]byte
	first := h.step(1, 1, 0, 0, "a")
	second := api.Msg{Kind: api.MStep, Rev: 2, Who: 1, Seq: 2, Edit: []api.Part{{Kind: api.Keep, N: 1}, {Kind: api.Put, N: 1, Text: "b"}}}
	for i, m := range []api.Msg{{Kind: api.MHello}, first, second} {
		b, _ := frame.Put(m)
		l = append(l, h.wrap(api.Frame{Conn: 1, Seq: i + 1, Body: b}))
	}
	does(t, c.Take(l[2]), c.Take(l[1]), c.Take(l[1]))
	isView(t, c, "", "", 0)
	does(t, c.Take(l[0]), c.Take(l[0]), c.Take(l[2]))
	isView(t, c, "ab", "ab", 0)
}

func TestP204Hello(t *testing.T) {
	c, h := inside(t, "ab")
	does(t, c.Move(2))
	h.hears()
	h.says()
	// To one that is in it says nothing.
	h.says(api.Msg{Kind: api.MHello, Seq: 40})
	saysThat(t, "not asking", h.hears(), "")
	does(t, c.Edit(0, 0, "x"))
	saysThat(t, "the number", h.hears(), "edit 1 of 1: x 2")
	// What is on its way, and was not committed, is said again, with the revision; the last number stays.
	h.says(h.step(1, 7, 0, 0, "__"))
	h = lets(t, c, 0)
	isState(t, c, api.On, 2)
	saysThat(t, "again", h.hears(), "edit 1 of 2: x 4")
	h.says(h.commits())
	saysThat(t, "its cursor is told anew", h.hears(), "cursor 3.5")
	// What was committed is not said again: its step comes.
	does(t, c.Edit(0, 0, "y"), c.Edit(0, 0, "z"))
	h = lets(t, c, 2)
	saysThat(t, "it was committed", h.hears(), "")
	h.says(h.commits())
	isTold(t, c, 1, 0, 2, 0)
	saysThat(t, "then the rest", h.hears(), "edit 3 of 4: z 6")
	// A stretch likewise.
	h.says(h.commits())
	does(t, c.Down(1, 2, 0))
	h = lets(t, c, 3)
	saysThat(t, "a stretch", h.hears(), "down 4 of 5: 1 2 to 0")
	h = lets(t, c, 4)
	saysThat(t, "a stretch that was committed", h.hears(), "")
	h.says(h.commits())
	isTold(t, c, 1, 0, 2, 0, 3, 0, 4, 0)
}

// A stretch on its way is not moved by what others do: it is asked for again by the same numbers, with the new revision.
func TestP204HelloStretch(t *testing.T) {
	c, h := inside(t, "ab")
	does(t, c.Down(1, 1, 0))
	h.says(h.step(1, 7, 0, 0, "__"))
	isView(t, c, "__ab", "__ab", 0)
	saysThat(t, "again", lets(t, c, 0).hears(), "down 1 of 2: 1 1 to 0")
}

// Without anything on its way the server's number counts.
func TestP204HelloLast(t *testing.T) {
	c := fresh(t)
	h := lets(t, c, 1<<40-1)
	does(t, c.Edit(0, 0, "a"))
	saysThat(t, "the last number that may be", h.hears(), "edit 1099511627776 of 0: a")
	h.says(h.commits())
	h.hears()
	does(t, c.Edit(0, 0, "b"))
	saysThat(t, "none is left: it is lost", h.hears(), "")
	isView(t, c, "ba", "a", 2)
	if !c.Pending() {
		t.Error("it is not pending")
	}
}

func TestP204Bye(t *testing.T) {
	c := fresh(t)
	does(t, c.Login("s"))
	h := greets(t, c)
	h.hears()
	h.says(api.Msg{Kind: api.MBye, Err: api.ErrSeats})
	isState(t, c, api.Off, 1)
	isTold(t, c, 0, int(api.ErrSeats))
	h.says(api.Msg{Kind: api.MBye, Err: api.ErrStale}, api.Msg{Kind: api.MHello})
	isState(t, c, api.Off, 1)
	isTold(t, c, 0, int(api.ErrSeats))
	c, h = inside(t, "ab")
	does(t, c.Edit(0, 0, "x"))
	h.says(api.Msg{Kind: api.MBye, Err: 1000})
	isState(t, c, api.Off, 1)
	isTold(t, c, 0, 1000)
	isView(t, c, "xab", "ab", 1)
	if len(c.Out()) == 0 {
		t.Error("its end is no more")
	}
	h.says(h.commits(), refuses(1, api.ErrArg), peer(1, 1, 0))
	isTold(t, c, 0, 1000)
	isPeers(t, c)
}

// Asking, a client heeds MHello and MBye alone.
func TestP204Asking(t *testing.T) {
	c, h := inside(t, "ab")
	does(t, c.Edit(0, 0, "x"), c.Login("s"))
	h = greets(t, c)
	ahead := shows(c)
	h.says(h.commits(), h.step(1, 9, 0, 0, "y"), refuses(1, api.ErrArg), peer(1, 1, 0))
	h.says(api.Msg{Kind: api.MBeat}, api.Msg{Kind: api.MLogin}, api.Msg{Kind: api.MCursor}, api.Msg{Kind: api.MDown})
	if shows(c) != ahead {
		t.Error(shows(c))
	}
	h.says(api.Msg{Kind: api.MHello})
	ahead = shows(c)
	h.says(api.Msg{Kind: api.MBeat}, api.Msg{Kind: api.MLogin}, api.Msg{Kind: api.MCursor}, api.Msg{Kind: api.MDown}, api.Msg{Kind: api.MEdit})
	if shows(c) != ahead {
		t.Error(shows(c))
	}
}

func TestP204Step(t *testing.T) {
	c, h := inside(t, "abc")
	h.says(peer(1, 1, 1), peer(2, 1, 3))
	does(t, c.Move(3), c.Edit(3, 0, "x"), c.Edit(0, 0, "y"))
	isView(t, c, "yabcx", "abc", 5)
	h.says(h.step(1, 5, 1, 1, "BB"))
	isView(t, c, "yaBBcx", "aBBc", 6)
	isPeers(t, c, 1, 2, 2, 5)
	if c.Rev() != 2 || parts(c.onWay.Edit) != "4 x" || parts(c.buffer) != "y 5" {
		t.Error(c.Rev(), parts(c.onWay.Edit), parts(c.buffer))
	}
	// Its own one, but of another number, is as anybody's.
	h.says(h.step(0, 7, 4, 0, "_"))
	isView(t, c, "yaBBcx_", "aBBc_", 6)
	isTold(t, c)
	// The number of what is on its way, but of another client, too.
	h.says(h.step(1, 1, 4, 1, ""))
	isView(t, c, "yaBBcx", "aBBc", 6)
	isTold(t, c)
	h.says(h.commits())
	isTold(t, c, 1, 0)
	isView(t, c, "yaBBcx", "aBBcx", 6)
	saysThat(t, "then the buffer, with the next number", h.hears()[1:], "edit 2 of 5: y 5")
	isState(t, c, api.On, 1)
}

// What is put at the same place as what another one put stands ahead of that.
func TestP204StepTies(t *testing.T) {
	c, h := inside(t, "ab")
	h.says(peer(1, 1, 1))
	does(t, c.Edit(1, 0, "x"), c.Edit(2, 0, "y"))
	isView(t, c, "axyb", "ab", 0)
	does(t, c.Move(3))
	h.says(h.step(1, 1, 1, 0, "__"))
	isView(t, c, "axy__b", "a__b", 3)
	isPeers(t, c, 1, 1)
	does(t, c.Move(1))
	h.says(h.step(1, 1, 1, 2, ""))
	isView(t, c, "axyb", "ab", 1)
	if parts(c.onWay.Edit) != "1 x 1" || parts(c.buffer) != "2 y 1" {
		t.Error(parts(c.onWay.Edit), parts(c.buffer))
	}
}

func TestP204Gap(t *testing.T) {
	for name, spoil := range map[string]func(h *host) api.Msg{
		"the revision that it has": func(h *host) api.Msg { m := h.step(1, 1, 0, 0, "z"); m.Rev--; return m },
		"one too far":              func(h *host) api.Msg { m := h.step(1, 1, 0, 0, "z"); m.Rev++; return m },
		"its own, too far":         func(h *host) api.Msg { m := h.commits(); m.Rev++; return m },
		"of another length": func(h *host) api.Msg {
			m := h.step(1, 1, 0, 0, "z")
			m.Edit = []api.Part{{Kind: api.Keep, N: 4}}
			return m
		},
		"of nothing":      func(h *host) api.Msg { m := h.step(1, 1, 0, 0, "z"); m.Edit = nil; return m },
		"another edit":    func(h *host) api.Msg { m := h.commits(); m.Edit = h.step(1, 1, 0, 0, "z").Edit; return m },
		"one's own, same": func(h *host) api.Msg { m := h.commits(); m.Edit, _ = edit.Same(2); return m },
	} {
		c, h := inside(t, "ab")
		does(t, c.Edit(0, 0, "x"), c.Edit(0, 0, "y"))
		m := spoil(h)
		h.says(m)
		isState(t, c, api.Off, 1)
		isTold(t, c, 0, int(api.ErrGap))
		isView(t, c, "yxab", "ab", 2)
		if c.Rev() != 1 || len(c.Out()) != 0 {
			t.Error(name, "its end is there", c.Rev())
		}
		fails(t, name, c.Take(h.wrap(api.Frame{Conn: 1})), api.ErrConn)
		tick(t, c, 30)
		isTold(t, c, 0, int(api.ErrGap))
		h = lets(t, c, 0)
		saysThat(t, name, h.hears(), "edit 1 of 1: x 2")
	}
	c, h := inside(t, "ab")
	does(t, c.Down(0, 1, 0))
	m := h.commits()
	m.Edit = h.step(1, 1, 0, 0, "z").Edit
	h.says(m)
	isState(t, c, api.Off, 1)
	isTold(t, c, 0, int(api.ErrGap))
	// Of others a step that changes nothing is one.
	c, h = inside(t, "ab")
	does(t, c.Edit(0, 0, "x"))
	h.says(h.step(1, 1, 0, 0, ""))
	isState(t, c, api.On, 1)
	if c.Rev() != 2 {
		t.Error(c.Rev())
	}
}

// Behind a step that can't be nothing of the same frame's bodies is heeded.
func TestP204GapEnds(t *testing.T) {
	c, h := inside(t, "ab")
	var l [][]byte
	for i, m := range []api.Msg{h.step(1, 9, 0, 0, "x"), {Kind: api.MBye, Err: api.ErrShut}, h.step(1, 9, 0, 0, "y")} {
		if i == 0 {
			m.Rev = 7
		}
		b, _ := frame.Put(m)
		l = append(l, h.wrap(api.Frame{Conn: 1, Seq: 3 + i, Body: b}))
	}
	does(t, c.Take(l[2]), c.Take(l[1]), c.Take(l[0]))
	isTold(t, c, 0, int(api.ErrGap))
	isView(t, c, "ab", "ab", 0)
}

func TestP204Refuse(t *testing.T) {
	c, h := inside(t, "abc")
	h.says(refuses(0, api.ErrArg), refuses(1, api.ErrArg))
	isTold(t, c)
	h.says(peer(1, 1, 3), peer(2, 1, 1))
	does(t, c.Edit(3, 0, "xyz"), c.Edit(0, 0, "__"), c.Move(8))
	isPeers(t, c, 1, 5, 2, 3)
	h.says(refuses(2, api.ErrArg), refuses(0, api.ErrArg))
	isTold(t, c)
	h.says(refuses(1, api.ErrQuota))
	isTold(t, c, 1, int(api.ErrQuota))
	isView(t, c, "abc", "abc", 3)
	isPeers(t, c, 1, 3, 2, 3)
	if c.Pending() {
		t.Error("it is pending")
	}
	fails(t, "the history is cleared", c.Undo(), api.ErrNone)
	fails(t, "the history is cleared", c.Redo(), api.ErrNone)
	does(t, c.Edit(0, 1, ""), c.Undo())
	isView(t, c, "abc", "abc", 3)
	isState(t, c, api.On, 1)
}

func TestP204RefuseBehindUndo(t *testing.T) {
	c, h := inside(t, "ab")
	does(t, c.Edit(0, 0, "x"))
	h.says(h.commits())
	does(t, c.Undo())
	h.says(refuses(2, api.ErrWrite))
	isView(t, c, "xab", "xab", 0)
	fails(t, "cleared", c.Undo(), api.ErrNone)
	fails(t, "cleared", c.Redo(), api.ErrNone)
}

func TestP204Peer(t *testing.T) {
	c, h := inside(t, "abc")
	does(t, c.Edit(1, 0, "xx"), c.Edit(5, 0, "y"))
	isView(t, c, "axxbcy", "abc", 0)
	for _, x := range [][2]int{{0, 0}, {1, 1}, {2, 4}, {3, 5}} { // what is put just there stands behind it
		h.says(peer(1, 1, x[0]))
		isPeers(t, c, 1, x[1])
	}
	h.says(peer(1, 1, 4), peer(1, 0, 0), peer(1, 2, 0), peer(1, 1, 1<<40), peer(2, 1<<40, 0))
	isPeers(t, c, 1, 5)
	h.says(peer(7, 1, 0))
	isPeers(t, c, 1, 5, 7, 0)
	isView(t, c, "axxbcy", "abc", 0)
	does(t, c.Logout())
	h.says(peer(1, 1, 0))
	isPeers(t, c, 1, 5, 7, 0)
}

func TestP205Beat(t *testing.T) {
	c, h := inside(t, "ab")
	said := func(n int, want string) {
		t.Helper()
		for i := range n {
			tick(t, c, 1)
			l := h.hears()
			h.says()
			if i < n-1 {
				saysThat(t, fmt.Sprint("tick ", i), l, "")
			} else {
				saysThat(t, "the last tick", l, want)
			}
		}
	}
	said(6, "beat")
	said(6, "beat")
	said(3, "")
	does(t, c.Move(1))
	saysThat(t, "something else", h.hears(), "cursor 1.1")
	h.says()
	said(6, "beat")
	said(5, "")
	h.says(h.step(1, 2, 0, 0, "")) // what comes is nothing that was said
	said(1, "beat")
}

// While something waits it is sent again, and no beat is said; behind it one is, at once, if it is time.
func TestP205BeatWaits(t *testing.T) {
	c, h := inside(t, "ab")
	does(t, c.Edit(0, 0, "x"))
	saysThat(t, "an edit", h.hears(), "edit 1 of 1: x 2")
	for i := range 8 {
		tick(t, c, 1)
		if l := c.Out(); len(l) > 0 != (i == 2 || i == 5) {
			t.Error(i, len(l))
		}
	}
	h.says()
	tick(t, c, 1)
	saysThat(t, "a beat", h.hears(), "beat")
}

// Asking it beats, too; off it does not.
func TestP205BeatStates(t *testing.T) {
	c := fresh(t)
	does(t, c.Login("s"))
	h := greets(t, c)
	h.hears()
	h.says()
	tick(t, c, 5)
	saysThat(t, "not yet", h.hears(), "")
	tick(t, c, 1)
	saysThat(t, "asking", h.hears(), "beat")
	does(t, c.Logout())
	saysThat(t, "it goes", h.hears(), "bye 0")
	h.says()
	tick(t, c, 20)
	saysThat(t, "off", h.hears(), "")
	c, h = inside(t, "")
	does(t, c.Logout())
	c.Out()
	tick(t, c, 3)
	saysThat(t, "what waits is sent again", h.hears(), "bye 0")
}

func TestP205Silence(t *testing.T) {
	c, h := inside(t, "ab")
	does(t, c.Edit(0, 0, "x"))
	tick(t, c, 23)
	isState(t, c, api.On, 1)
	h.hears()
	h.says()
	tick(t, c, 23)
	isState(t, c, api.On, 1)
	tick(t, c, 1)
	isState(t, c, api.Off, 1)
	isTold(t, c, 0, int(api.ErrShut))
	isView(t, c, "xab", "ab", 1)
	if len(c.Out()) != 0 {
		t.Error("its end is there")
	}
	fails(t, "late", c.Take(h.wrap(api.Frame{Conn: 1})), api.ErrConn)
	tick(t, c, 50)
	isTold(t, c, 0, int(api.ErrShut))
	// A new connection has its own silence.
	does(t, c.Login("s"))
	tick(t, c, 23)
	isState(t, c, api.Asking, 2)
	does(t, c.Login("s"))
	tick(t, c, 23)
	isState(t, c, api.Asking, 3)
	tick(t, c, 1)
	isState(t, c, api.Off, 3)
	isTold(t, c, 0, int(api.ErrShut), 0, int(api.ErrShut))
}

// What has an error is nothing that came; off, its end goes without a word.
func TestP205SilenceOff(t *testing.T) {
	c, h := inside(t, "ab")
	does(t, c.Logout())
	tick(t, c, 23)
	b := h.wrap(api.Frame{Conn: 1})
	b[39] ^= 1
	fails(t, "of another key", c.Take(b), api.ErrKey)
	if len(c.Out()) == 0 {
		t.Error("its end is gone")
	}
	tick(t, c, 1)
	isState(t, c, api.Off, 1)
	isTold(t, c)
	fails(t, "its end is gone", c.Take(h.wrap(api.Frame{Conn: 1})), api.ErrConn)
}

func TestP205Out(t *testing.T) {
	c := fresh(t)
	tick(t, c, 100)
	if len(c.Out()) != 0 {
		t.Error("it has no end")
	}
	does(t, c.Move(0), c.Login("s"))
	l := c.Out()
	login, _ := frame.Put(api.Msg{Kind: api.MLogin})
	f, bad := frame.Unwrap(frame.Key("s", 0, 1), true, l[0])
	if len(l) != 1 || bad != api.OK || f.Conn != 1 || f.Seq != 1 || f.Ack != 0 || string(f.Body) != string(login) {
		t.Error(len(l), f, bad)
	}
	l[0][0] ^= 1
	if len(c.Out()) != 0 {
		t.Error("once is enough")
	}
}

func TestP205Cursor(t *testing.T) {
	c := fresh(t)
	does(t, c.Edit(0, 0, "ab"))
	h := lets(t, c, 0)
	saysThat(t, "pending", h.hears(), "edit 1 of 0: ab")
	does(t, c.Move(1))
	saysThat(t, "pending", h.hears(), "")
	h.says(h.commits())
	saysThat(t, "let in", h.hears(), "cursor 1.1")
	saysThat(t, "once", h.hears(), "")
	h.says(h.step(1, 1, 0, 0, "_"))
	saysThat(t, "others move it", h.hears(), "")
	does(t, c.Move(2))
	saysThat(t, "moved to where it was", h.hears(), "cursor 2.2")
	does(t, c.Move(0), c.Edit(0, 0, "x"), c.Logout())
	h.hears()
	saysThat(t, "off", h.hears(), "")
}

// Beyond four that wait a cursor waits, too.
func TestP205CursorRoom(t *testing.T) {
	c, h := inside(t, "ab")
	waits := func(n int) {
		t.Helper()
		if c.end.Waiting() != n {
			t.Errorf("%d wait, not %d", c.end.Waiting(), n)
		}
	}
	var sent [][]byte
	for i := range 4 {
		does(t, c.Move(i%2))
		waits(i)
		sent = append(sent, c.Out()...)
		waits(i + 1)
	}
	does(t, c.Move(2))
	if len(c.Out()) != 0 || len(c.Out()) != 0 {
		t.Error("beyond the window")
	}
	waits(4)
	f, _ := frame.Unwrap(h.key, true, sent[0])
	h.end.Take(f)
	h.says()
	waits(3)
	c.Out()
	waits(4)
	c.Out()
	waits(4)
	tick(t, c, 3)
	saysThat(t, "all others", h.hears(), "cursor 1.1, cursor 1.0, cursor 1.1, cursor 1.2")
}

// A cursor that can't be said stays moved.
func TestP205CursorLost(t *testing.T) {
	c, h := inside(t, "ab")
	rev := c.rev
	c.rev = 1<<40 + 1 // so many steps nobody can take: the number is set by hand
	does(t, c.Move(1))
	saysThat(t, "it can't be said", h.hears(), "")
	c.rev = rev
	saysThat(t, "now it can", h.hears(), "cursor 1.1")
}

func TestP205Nil(t *testing.T) {
	var none *Client
	for _, c := range []*Client{none, {}} {
		isView(t, c, "", "", 0)
		isState(t, c, 0, 0)
		if c.Secret() != "" || c.Rev() != 0 || c.Pending() || len(c.Told()) != 0 || len(c.Peers()) != 0 || len(c.Out()) != 0 {
			t.Error("something is there")
		}
		l := []api.Errno{c.Login("s"), c.Logout(), c.Edit(0, 0, "a"), c.Edit(-1, 0, ""), c.Undo(), c.Redo(), c.Down(0, 1, 0), c.Move(0), c.Move(-1), c.Take(nil), c.Take(make([]byte, 40)), c.Tick()}
		for i, bad := range l {
			fails(t, fmt.Sprint("call ", i), bad, api.ErrNil)
		}
	}
}

// The example of the chapter.
func TestP203Example(t *testing.T) {
	c := fresh(t)
	does(t, c.Edit(0, 0, "ab"))
	isView(t, c, "ab", "", 2)
	h := lets(t, c, 0)
	saysThat(t, "let in", h.hears(), "edit 1 of 0: ab")
	h.says(h.commits())
	isTold(t, c, 1, 0)
	if c.Pending() {
		t.Error("it is pending")
	}
}
