package world

import (
	"bytes"
	"fmt"
	"slices"
	"testing"

	"sealskin/api"
	"sealskin/client"
	"sealskin/frame"
)

// house is a policy of labels low, and high, which sees it. Clients 0 and 1 are low, 2 is high, and may let down.
func house() api.Policy {
	q := api.Quota{Chars: 4096, Ops: 4096, Seats: 8}
	return api.Policy{
		Labels:  []api.Label{{}, {Level: 1}},
		Quotas:  []api.Quota{q, q},
		Entries: []api.Entry{{Secret: "a"}, {Secret: "b"}, {Label: 1, Secret: "c", Down: true}},
	}
}

func newWorld(t *testing.T) *World {
	t.Helper()
	w, bad := New(house())
	if w == nil || bad != api.OK {
		t.Fatal(w, bad)
	}
	return w
}

func does(t *testing.T, w *World, l ...api.Event) {
	t.Helper()
	for _, e := range l {
		if bad := w.Do(e); bad != api.OK {
			t.Fatalf("%+v: %v", e, bad)
		}
	}
}

func fails(t *testing.T, w *World, e api.Event, want api.Errno) {
	t.Helper()
	if bad := w.Do(e); bad != want {
		t.Errorf("%+v: %d, not %d", e, bad, want)
	}
}

// comes lets a client come in.
func comes(t *testing.T, w *World, who int) {
	t.Helper()
	does(t, w, api.Event{Kind: api.ELogin, Client: who})
	carry(t, w, who)
	if state, _ := w.Client(who).State(); state != api.On {
		t.Fatalf("%d is not in", who)
	}
}

// carry lets all come that is on its way between a client and the server.
func carry(t *testing.T, w *World, who int) {
	t.Helper()
	for range 1000 {
		toServer, toClient := w.Waiting(who)
		if toServer > 0 {
			w.Do(api.Event{Kind: api.EUp, Client: who})
		}
		if toClient > 0 {
			w.Do(api.Event{Kind: api.EDeliver, Client: who})
		}
		if toServer+toClient == 0 {
			return
		}
	}
	t.Fatal("there is no end")
}

// look is all that is told of a world, but for what came last.
func look(w *World) string {
	out := ""
	for who := range w.places {
		s := w.Shot(who)
		s.Got = nil
		conn, open, told := w.Server().State(who)
		out += fmt.Sprintf("%+v %d %v %d %d\n", s, conn, open, told, w.Server().Locked(who))
		for side := range 2 {
			out += fmt.Sprintln(ways(w, who, side))
		}
	}
	return out + fmt.Sprint(w.Server().Core().Elems(), files(w))
}

// ways is all frames of a side.
func ways(w *World, who, side int) (l [][]byte) {
	for k := 0; ; k++ {
		b, ok := w.Frame(who, side, k)
		if !ok {
			return l
		}
		l = append(l, b)
	}
}

func files(w *World) (l [][]byte) {
	for file := range api.Files {
		b, _ := w.Disk().Read(file)
		l = append(l, b)
	}
	return l
}

func waits(t *testing.T, w *World, who, toServer, toClient int) {
	t.Helper()
	if a, b := w.Waiting(who); a != toServer || b != toClient {
		t.Errorf("%d: %d and %d are on their way, not %d and %d", who, a, b, toServer, toClient)
	}
}

func TestP211New(t *testing.T) {
	p := house()
	w, bad := New(p)
	if bad != api.OK {
		t.Fatal(bad)
	}
	for who := range 3 {
		waits(t, w, who, 0, 0)
		if s := fmt.Sprintf("%+v", w.Shot(who)); s != fmt.Sprintf("%+v", api.Shot{Client: who}) {
			t.Error(s)
		}
		c := w.Client(who)
		if c == nil || c != w.Client(who) || c.Secret() != p.Entries[who].Secret {
			t.Errorf("client %d is another one", who)
		}
	}
	if s := w.Server(); s == nil || s != w.Server() || s.Core().Commits() != 0 {
		t.Error("another server")
	}
	p.Labels[0].Level, p.Quotas[0].Seats, p.Entries[0].Secret = 9, 0, "z" // what was handed in is not kept
	does(t, w, api.Event{Kind: api.ECrash})
	comes(t, w, 0)
	comes(t, w, 2)
	if w.Server().Core().Policy().Labels[0] != (api.Label{}) {
		t.Error("another policy")
	}
}

func TestP211Wrong(t *testing.T) {
	for i, p := range []api.Policy{{}, {Labels: house().Labels, Quotas: house().Quotas}, {Labels: house().Labels, Entries: house().Entries}} {
		if w, bad := New(p); w != nil || bad != api.ErrPolicy {
			t.Error(i, w, bad)
		}
	}
}

func TestP211Places(t *testing.T) {
	w := newWorld(t)
	comes(t, w, 0)
	does(t, w, api.Event{Kind: api.EEdit, Text: "a"})
	for _, who := range []int{-1 << 63, -1, 3, 8, 1<<63 - 1} {
		waits(t, w, who, 0, 0)
		if c := w.Client(who); c != nil {
			t.Errorf("there is a client %d", who)
		}
		if b, ok := w.Frame(who, 0, 0); b != nil || ok {
			t.Errorf("there is a frame of %d", who)
		}
		if s := fmt.Sprintf("%+v", w.Shot(who)); s != fmt.Sprintf("%+v", api.Shot{}) {
			t.Error(s)
		}
	}
}

func TestP211Frame(t *testing.T) {
	w := newWorld(t)
	does(t, w, api.Event{Kind: api.ELogin, Client: 1})
	waits(t, w, 0, 0, 0)
	waits(t, w, 1, 1, 0)
	b, ok := w.Frame(1, 0, 0)
	f, bad := frame.Unwrap(frame.Key("b", 1, 1), true, b)
	if !ok || bad != api.OK || f.Conn != 1 || f.Seq != 1 {
		t.Fatal(f, ok, bad)
	}
	b[0] ^= 1 // it is the caller's own
	does(t, w, api.Event{Kind: api.EUp, Client: 1})
	waits(t, w, 1, 0, 1)
	b, ok = w.Frame(1, 1, 0)
	if _, bad := frame.Unwrap(frame.Key("b", 1, 1), false, b); !ok || bad != api.OK {
		t.Fatal(ok, bad)
	}
	for _, x := range [][2]int{{0, 0}, {1, 1}, {1, -1}, {-1, 0}, {2, 0}, {1, 1 << 62}, {-1 << 63, -1 << 63}, {1<<63 - 1, 0}} {
		if b, ok := w.Frame(1, x[0], x[1]); b != nil || ok {
			t.Errorf("there is a frame %v", x)
		}
	}
	does(t, w, api.Event{Kind: api.EDeliver, Client: 1})
	if state, _ := w.Client(1).State(); state != api.On {
		t.Error(state)
	}
}

// The disk that is told is another one: what is done to it is not done to the world's.
func TestP211Disk(t *testing.T) {
	w := newWorld(t)
	d := w.Disk()
	if bad := d.Append(0, make([]byte, api.MaxRoom-d.Used()+1)); bad != api.ErrFull {
		t.Errorf("more room: %d", bad)
	}
	if bad := d.Append(0, make([]byte, api.MaxRoom-d.Used())); bad != api.OK {
		t.Errorf("less room: %d", bad)
	}
	used := w.Disk().Used()
	d.Wipe(1)
	d.Crash()
	if w.Disk().Used() != used {
		t.Error("it is the world's own one")
	}
	comes(t, w, 0)
	if w.Disk().Used() <= used {
		t.Error("a login is not kept")
	}
}

func TestP211Shot(t *testing.T) {
	w := newWorld(t)
	for who := range 3 {
		comes(t, w, who)
	}
	does(t, w, api.Event{Kind: api.EEdit, Text: "abc"}, api.Event{Kind: api.ECursor, At: 1})
	for range 3 {
		for who := range 3 {
			carry(t, w, who)
		}
	}
	does(t, w, api.Event{Kind: api.EEdit, Client: 2, Text: "x"}, api.Event{Kind: api.EUp, Client: 2})
	b, _ := w.Frame(2, 1, 0)
	does(t, w, api.Event{Kind: api.EDeliver, Client: 2})
	s := w.Shot(2)
	want := fmt.Sprintf("%+v", api.Shot{Client: 2, View: "xabc", Rev: 2, State: api.On, Cursor: 1, Peers: []api.Peer{{Who: 0, At: 2}, {Who: 1, At: 0}}, Told: []api.Told{{Seq: 1}}, Got: b})
	if len(b) == 0 || fmt.Sprintf("%+v", s) != want {
		t.Errorf("%+v, not %s", s, want)
	}
	s.Peers[0].At, s.Told[0].Seq, s.Got[0] = 9, 9, s.Got[0]^1 // they are the caller's own
	if fmt.Sprintf("%+v", w.Shot(2)) != want {
		t.Error("a shot is the world's own")
	}
}

// Got is what came in the last event, whoever's that was, and whatever came of it.
func TestP211Got(t *testing.T) {
	for _, e := range []api.Event{
		{Kind: api.ETick}, {Kind: api.ECheck}, {Kind: api.ECrash}, {Kind: api.EEdit, Client: 1, Text: "q"}, {Kind: api.ELogin}, {Kind: api.EDouble, At: 1},
		{Kind: api.EEdit, At: 99}, {Kind: api.EDeliver, At: 99}, {Kind: api.EUp, At: 99}, {Kind: api.EDeliver, Client: 2}, {Kind: api.EDeliver, Client: -1}, {Kind: 99},
	} {
		w := newWorld(t)
		does(t, w, api.Event{Kind: api.ELogin}, api.Event{Kind: api.EUp}, api.Event{Kind: api.EDouble, At: 1})
		b, _ := w.Frame(0, 1, 0)
		does(t, w, api.Event{Kind: api.EDeliver})
		if got := w.Shot(0).Got; len(got) == 0 || !bytes.Equal(got, b) || w.Shot(1).Got != nil {
			t.Fatal(got)
		}
		w.Do(e)
		if got := w.Shot(0).Got; got != nil {
			t.Errorf("%+v: %v", e, got)
		}
	}
}

// A frame that a client refuses came nevertheless.
func TestP211GotRefused(t *testing.T) {
	w := newWorld(t)
	does(t, w, api.Event{Kind: api.ELogin}, api.Event{Kind: api.EUp}, api.Event{Kind: api.ELogin})
	b, _ := w.Frame(0, 1, 0)
	fails(t, w, api.Event{Kind: api.EDeliver}, api.ErrConn)
	waits(t, w, 0, 1, 0)
	if got := w.Shot(0).Got; !bytes.Equal(got, b) {
		t.Error(got)
	}
}

func TestP212Nobody(t *testing.T) {
	for _, w := range []*World{nil, {}} {
		for kind := -1; kind < 18; kind++ {
			fails(t, w, api.Event{Kind: kind}, api.ErrNil)
		}
		waits(t, w, 0, 0, 0)
		if b, ok := w.Frame(0, 0, 0); b != nil || ok {
			t.Error(b, ok)
		}
		if w.Server() != nil || w.Client(0) != (*client.Client)(nil) || w.Disk() != nil {
			t.Error("there is something")
		}
		if s := fmt.Sprintf("%+v", w.Shot(0)); s != fmt.Sprintf("%+v", api.Shot{}) {
			t.Error(s)
		}
	}
}

func TestP212Example(t *testing.T) {
	p := house()
	p.Entries = p.Entries[:1]
	w, bad := New(p)
	if bad != api.OK {
		t.Fatal(bad)
	}
	does(t, w, api.Event{Kind: api.ELogin}, api.Event{Kind: api.EUp}, api.Event{Kind: api.EDeliver})
	if state, conn := w.Client(0).State(); state != api.On || conn != 1 {
		t.Error(state, conn)
	}
	carry(t, w, 0)
	does(t, w, api.Event{Kind: api.EEdit, Text: "ab"}, api.Event{Kind: api.EUp}, api.Event{Kind: api.EDeliver})
	if told := w.Client(0).Told(); !slices.Equal(told, []api.Told{{Seq: 1}}) || w.Server().Core().Text(0) != "ab" {
		t.Error(told)
	}
}

// Events that can't be change nothing, but that nothing came in them.
func TestP212Steps(t *testing.T) {
	w := newWorld(t)
	comes(t, w, 0)
	does(t, w, api.Event{Kind: api.EEdit, Text: "ab"})
	ahead := look(w)
	for _, kind := range []int{-1 << 63, -1, 0, 16, 17, 1<<63 - 1} {
		fails(t, w, api.Event{Kind: kind}, api.ErrStep)
	}
	for kind := api.ELogin; kind <= api.ERedo; kind++ {
		if kind == api.ETick || kind == api.ECrash || kind == api.ECheck {
			continue
		}
		for _, who := range []int{-1 << 63, -1, 3, 8, 1<<63 - 1} {
			fails(t, w, api.Event{Kind: kind, Client: who, Text: "a"}, api.ErrStep)
		}
	}
	for _, at := range []int{-1 << 63, -1, 1, 2, 63, 1<<63 - 1} {
		fails(t, w, api.Event{Kind: api.EUp, At: at}, api.ErrStep)
		fails(t, w, api.Event{Kind: api.EDeliver, At: at}, api.ErrStep)
		for _, kind := range []int{api.ELose, api.EDouble} {
			fails(t, w, api.Event{Kind: kind, N: at}, api.ErrStep)
			fails(t, w, api.Event{Kind: kind, At: 1, N: at}, api.ErrStep)
		}
	}
	for _, side := range []int{-1 << 63, -1, 2, 1<<63 - 1} {
		fails(t, w, api.Event{Kind: api.ELose, At: side}, api.ErrStep)
		fails(t, w, api.Event{Kind: api.EDouble, At: side}, api.ErrStep)
	}
	fails(t, w, api.Event{Kind: api.EDeliver, Client: 1}, api.ErrStep)
	fails(t, w, api.Event{Kind: api.EUp, Client: 1}, api.ErrStep)
	if now := look(w); now != ahead {
		t.Errorf("%s became %s", ahead, now)
	}
}

// What layers below refuse is told, and has changed nothing.
func TestP212Refused(t *testing.T) {
	w := newWorld(t)
	comes(t, w, 0)
	does(t, w, api.Event{Kind: api.EEdit, Text: "ab"})
	ahead := look(w)
	for _, x := range []struct {
		e    api.Event
		want api.Errno
	}{
		{api.Event{Kind: api.EEdit, At: 3, Text: "a"}, api.ErrEdit},
		{api.Event{Kind: api.EEdit, N: 3}, api.ErrEdit},
		{api.Event{Kind: api.EEdit, Text: string(make([]byte, api.MaxText+1))}, api.ErrLong},
		{api.Event{Kind: api.ECursor, At: 3}, api.ErrArg},
		{api.Event{Kind: api.ECursor, At: -1}, api.ErrArg},
		{api.Event{Kind: api.EDown, N: 1}, api.ErrFull},
		{api.Event{Kind: api.EDown, Client: 2, N: 1}, api.ErrShut},
		{api.Event{Kind: api.EBye, Client: 2}, api.ErrShut},
		{api.Event{Kind: api.EUndo, Client: 2}, api.ErrNone},
		{api.Event{Kind: api.ERedo}, api.ErrNone},
	} {
		fails(t, w, x.e, x.want)
	}
	if now := look(w); now != ahead {
		t.Errorf("%s became %s", ahead, now)
	}
}

func TestP212Login(t *testing.T) {
	w := newWorld(t)
	does(t, w, api.Event{Kind: api.ELogin, Text: "z"})
	fails(t, w, api.Event{Kind: api.EUp}, api.ErrKey)
	does(t, w, api.Event{Kind: api.ELogin, Text: "a"}, api.Event{Kind: api.EUp}, api.Event{Kind: api.EDeliver})
	if state, conn := w.Client(0).State(); state != api.On || conn != 2 {
		t.Error(state, conn)
	}
	does(t, w, api.Event{Kind: api.ELogin, Client: 2}, api.Event{Kind: api.EUp, Client: 2}, api.Event{Kind: api.EDeliver, Client: 2})
	if state, conn := w.Client(2).State(); state != api.On || conn != 1 {
		t.Error(state, conn)
	}
	does(t, w, api.Event{Kind: api.EBye, Client: 2}, api.Event{Kind: api.EUp, Client: 2})
	if state, _ := w.Client(2).State(); state != api.Off {
		t.Error(state)
	}
}

// What a client asks for is asked with the event's own numbers.
func TestP212Fields(t *testing.T) {
	w := newWorld(t)
	comes(t, w, 2)
	does(t, w, api.Event{Kind: api.EEdit, Client: 2, Text: "abcd"}, api.Event{Kind: api.EEdit, Client: 2, At: 1, N: 2, Text: "xyz"})
	carry(t, w, 2)
	does(t, w, api.Event{Kind: api.ECursor, Client: 2, At: 4}, api.Event{Kind: api.EDown, Client: 2, At: 2, N: 2, Target: 0})
	carry(t, w, 2)
	c := w.Server().Core()
	if w.Client(2).View() != "axyzd" || w.Client(2).Cursor() != 4 || c.Text(0) != "yz" || c.Text(1) != "axyzd" {
		t.Error(w.Client(2).View(), w.Client(2).Cursor(), c.Text(0))
	}
	does(t, w, api.Event{Kind: api.EUndo, Client: 2})
	if w.Client(2).View() != "abcd" {
		t.Error(w.Client(2).View())
	}
	does(t, w, api.Event{Kind: api.ERedo, Client: 2})
	if w.Client(2).View() != "axyzd" {
		t.Error(w.Client(2).View())
	}
	carry(t, w, 2)
	does(t, w, api.Event{Kind: api.EDown, Client: 2, At: 4, N: 1, Target: 31})
	carry(t, w, 2)
	if l := w.Client(2).Told(); l[len(l)-1].Err != api.ErrRight {
		t.Error(l)
	}
}

// Frames come by their places; the others stay in order.
func TestP212Ways(t *testing.T) {
	w := newWorld(t)
	comes(t, w, 0)
	does(t, w, api.Event{Kind: api.EEdit, Text: "a"}, api.Event{Kind: api.EDouble}, api.Event{Kind: api.EDouble, N: 1})
	waits(t, w, 0, 3, 0)
	does(t, w, api.Event{Kind: api.ETick}, api.Event{Kind: api.ETick}, api.Event{Kind: api.ETick})
	l := ways(w, 0, 0)
	if len(l) != 4 || !bytes.Equal(l[0], l[1]) || !bytes.Equal(l[1], l[2]) {
		t.Fatal(l)
	}
	does(t, w, api.Event{Kind: api.ELogin})
	l = ways(w, 0, 0)
	does(t, w, api.Event{Kind: api.EUp, At: 4}) // the new login: what is ahead of it is of another connection
	if got := ways(w, 0, 0); !slices.EqualFunc(got, l[:4], bytes.Equal) {
		t.Error(got)
	}
	fails(t, w, api.Event{Kind: api.EUp, At: 1}, api.ErrConn)
	waits(t, w, 0, 3, 1)
	does(t, w, api.Event{Kind: api.EDouble, At: 1}, api.Event{Kind: api.ELose, At: 0, N: 2}, api.Event{Kind: api.ELose, At: 1, N: 0})
	waits(t, w, 0, 2, 1)
	does(t, w, api.Event{Kind: api.EDeliver})
	if state, conn := w.Client(0).State(); state != api.On || conn != 2 {
		t.Error(state, conn)
	}
}

// What is lost and doubled is just that frame.
func TestP212LoseDouble(t *testing.T) {
	w := newWorld(t)
	for range 3 {
		does(t, w, api.Event{Kind: api.ELogin, Client: 1})
	}
	l := ways(w, 1, 0)
	does(t, w, api.Event{Kind: api.EDouble, Client: 1, N: 1})
	if got := ways(w, 1, 0); !slices.EqualFunc(got, [][]byte{l[0], l[1], l[2], l[1]}, bytes.Equal) {
		t.Error(got)
	}
	does(t, w, api.Event{Kind: api.ELose, Client: 1, N: 1})
	if got := ways(w, 1, 0); !slices.EqualFunc(got, [][]byte{l[0], l[2], l[1]}, bytes.Equal) {
		t.Error(got)
	}
	does(t, w, api.Event{Kind: api.ELose, Client: 1, N: 2}, api.Event{Kind: api.ELose, Client: 1})
	if got := ways(w, 1, 0); !slices.EqualFunc(got, [][]byte{l[2]}, bytes.Equal) {
		t.Error(got)
	}
	waits(t, w, 0, 0, 0)
}

// 64 frames have room on a side; the 65th is lost, or refused, if it is to be doubled.
func TestP212Room(t *testing.T) {
	w := newWorld(t)
	does(t, w, api.Event{Kind: api.ELogin})
	for n := 1; n < api.MaxLink; n++ {
		does(t, w, api.Event{Kind: api.EDouble, N: n - 1})
	}
	waits(t, w, 0, api.MaxLink, 0)
	ahead := look(w)
	fails(t, w, api.Event{Kind: api.EDouble, N: 63}, api.ErrFull)
	fails(t, w, api.Event{Kind: api.EDouble, N: 64}, api.ErrStep)
	if now := look(w); now != ahead {
		t.Errorf("%s became %s", ahead, now)
	}
	old := ways(w, 0, 0)
	does(t, w, api.Event{Kind: api.ELogin}) // its frame is lost
	if now := ways(w, 0, 0); !slices.EqualFunc(now, old, bytes.Equal) {
		t.Error("a frame was lost that was on its way")
	}
	does(t, w, api.Event{Kind: api.ELose}, api.Event{Kind: api.EDouble})
	waits(t, w, 0, api.MaxLink, 0)
	for range api.MaxLink {
		w.Do(api.Event{Kind: api.EUp})
	}
	waits(t, w, 0, 0, api.MaxLink) // each frame that came again is acknowledged again
	if conn, _, _ := w.Server().State(0); conn != 1 {
		t.Error(conn)
	}
}

// Of frames that go at once those have room that come first.
func TestP212RoomForSome(t *testing.T) {
	w := newWorld(t)
	for who := range 2 {
		comes(t, w, who)
	}
	for range 3 {
		does(t, w, api.Event{Kind: api.EEdit, Text: "a"})
		carry(t, w, 0)
	}
	_, n := w.Waiting(1)
	if n < 3 {
		t.Fatal(n)
	}
	for ; n < api.MaxLink-2; n++ {
		does(t, w, api.Event{Kind: api.EDouble, Client: 1, At: 1})
	}
	old := ways(w, 1, 1)
	does(t, w, api.Event{Kind: api.ETick}, api.Event{Kind: api.ETick}, api.Event{Kind: api.ETick}) // all that waits is sent again
	now := ways(w, 1, 1)
	if len(now) != api.MaxLink || !slices.EqualFunc(now[:len(old)], old, bytes.Equal) {
		t.Fatal(len(now))
	}
	for i, b := range now[len(old):] {
		if f, bad := frame.Peek(b); bad != api.OK || f.Seq != first(t, old)+i {
			t.Errorf("frame %d has room, not %d", f.Seq, first(t, old)+i)
		}
	}
}

// first is the number of the first frame of those.
func first(t *testing.T, l [][]byte) int {
	t.Helper()
	f, bad := frame.Peek(l[0])
	if bad != api.OK {
		t.Fatal(bad)
	}
	return f.Seq
}

// Time passes for all: whoever is silent for 24 ticks is out, at both places.
func TestP212Tick(t *testing.T) {
	w := newWorld(t)
	for who := range 3 {
		comes(t, w, who)
	}
	for tick := range api.Silence {
		for who := range 3 {
			_, open, _ := w.Server().State(who)
			if state, _ := w.Client(who).State(); state != api.On || !open {
				t.Fatal(tick, who, state, open)
			}
		}
		does(t, w, api.Event{Kind: api.ETick, Client: 99})
	}
	for who := range 3 {
		_, open, _ := w.Server().State(who)
		if state, _ := w.Client(who).State(); state != api.Off || open {
			t.Error(who, state, open)
		}
		if l := w.Client(who).Told(); !slices.Equal(l, []api.Told{{Err: api.ErrShut}}) {
			t.Error(l)
		}
	}
}

// The power goes: there is a new server, which knows nobody as in, with all that was committed; what is on its way stays there.
func TestP212Crash(t *testing.T) {
	w := newWorld(t)
	comes(t, w, 0)
	does(t, w, api.Event{Kind: api.EEdit, Text: "ab"}, api.Event{Kind: api.EUp})
	s, old := w.Server(), ways(w, 0, 1)
	does(t, w, api.Event{Kind: api.ECrash, Client: -1})
	if w.Server() == s || w.Server() == nil || w.Server().Core().Text(0) != "ab" {
		t.Error("no new server")
	}
	if conn, open, told := w.Server().State(0); conn != 1 || open || told != 0 {
		t.Error(conn, open, told)
	}
	if now := ways(w, 0, 1); len(old) == 0 || !slices.EqualFunc(now, old, bytes.Equal) {
		t.Error(now)
	}
	does(t, w, api.Event{Kind: api.EDeliver})
	if told := w.Client(0).Told(); !slices.Equal(told, []api.Told{{Seq: 1}}) {
		t.Error(told)
	}
	fails(t, w, api.Event{Kind: api.EUp}, api.ErrShut) // the acknowledgement
	comes(t, w, 0)
}

// The power goes behind each byte of what is written: the event is done, and what was being written is there, or is not.
func TestP212Torn(t *testing.T) {
	size := 0
	for n := -1; size == 0 || n < size+5; n++ {
		w := newWorld(t)
		comes(t, w, 0)
		does(t, w, api.Event{Kind: api.EEdit, Text: "ab"}, api.Event{Kind: api.EDouble})
		if size == 0 {
			size = edited(t)
		}
		s, used := w.Server(), w.Disk().Used()
		does(t, w, api.Event{Kind: api.ETorn, At: 1, N: n})
		waits(t, w, 0, 1, 0)
		want := ""
		if n >= size {
			want = "ab"
		}
		if got := w.Server().Core().Text(0); w.Server() == s || got != want {
			t.Fatalf("%d of %d: %q", n, size, got)
		}
		if n >= size != (w.Disk().Used() == used+size) {
			t.Errorf("%d of %d: %d bytes", n, size, w.Disk().Used()-used)
		}
		comes(t, w, 0) // the power is there, without a fuse
		if w.Server().Core().Text(0) != "ab" || w.Server().Core().Commits() != 1 {
			t.Fatalf("%d: %q", n, w.Server().Core().Text(0))
		}
	}
}

// edited is how many bytes are written when the first edit of that comes.
func edited(t *testing.T) int {
	t.Helper()
	w := newWorld(t)
	comes(t, w, 0)
	used := w.Disk().Used()
	does(t, w, api.Event{Kind: api.EEdit, Text: "ab"}, api.Event{Kind: api.EUp})
	return w.Disk().Used() - used
}

// Without a frame that is torn there is a crash.
func TestP212TornNothing(t *testing.T) {
	for _, at := range []int{-1, 1, 64, 1<<63 - 1} {
		w := newWorld(t)
		comes(t, w, 0)
		does(t, w, api.Event{Kind: api.EEdit, Text: "ab"})
		s := w.Server()
		does(t, w, api.Event{Kind: api.ETorn, At: at, N: 1000})
		waits(t, w, 0, 1, 0)
		if _, open, _ := w.Server().State(0); w.Server() == s || open {
			t.Error("no new server")
		}
	}
}

// A frame that the server refuses is no error of an event that is torn; nor is one that writes less than the fuse has.
func TestP212TornOther(t *testing.T) {
	w := newWorld(t)
	does(t, w, api.Event{Kind: api.ELogin, Text: "wrong"}, api.Event{Kind: api.ETorn, N: 1 << 40})
	waits(t, w, 0, 0, 0)
	does(t, w, api.Event{Kind: api.ELogin}, api.Event{Kind: api.ETorn, N: 1 << 40})
	waits(t, w, 0, 0, 0)
	if conn, open, _ := w.Server().State(0); conn != 2 || open {
		t.Error(conn, open)
	}
	comes(t, w, 0)
	does(t, w, api.Event{Kind: api.EEdit, Text: "ab"})
	carry(t, w, 0)
	if w.Server().Core().Text(0) != "ab" {
		t.Error("there is still a fuse")
	}
}

func TestP212Check(t *testing.T) {
	w := newWorld(t)
	comes(t, w, 0)
	does(t, w, api.Event{Kind: api.EEdit, Text: "ab"})
	carry(t, w, 0)
	ahead := files(w)
	does(t, w, api.Event{Kind: api.ECheck, Client: 77})
	now := files(w)
	if len(ahead[2]) != 0 || len(now[2]) != len(ahead[0]) || len(now[0]) >= len(ahead[0]) {
		t.Error("no checkpoint")
	}
	does(t, w, api.Event{Kind: api.ECrash})
	if w.Server().Core().Text(0) != "ab" {
		t.Error(w.Server().Core().Text(0))
	}
}

// Two worlds know nothing of one another; the same events are the same.
func TestP212Again(t *testing.T) {
	a, b, c := newWorld(t), newWorld(t), newWorld(t)
	l := []api.Event{{Kind: api.ELogin}, {Kind: api.EUp}, {Kind: api.EDeliver}, {Kind: api.EEdit, Text: "ab"}, {Kind: api.EUp}, {Kind: api.ETick}, {Kind: api.ETorn}}
	empty := look(c)
	for _, e := range l {
		does(t, a, e)
		does(t, b, e)
	}
	if look(a) != look(b) || look(c) != empty {
		t.Error("they hang together")
	}
}
