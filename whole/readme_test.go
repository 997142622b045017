package whole

import (
	"testing"

	"sealskin/api"
	"sealskin/client"
	"sealskin/console"
	"sealskin/desk"
	"sealskin/disk"
	"sealskin/server"
	"sealskin/watch"
	"sealskin/world"
)

// What README.md shows of worlds, with a policy of a client 0 that is low, and 2, that is high.
func TestReadmeWorld(t *testing.T) {
	policy := house()
	w, bad := world.New(policy)
	if bad != api.OK {
		t.Fatal(bad)
	}
	for _, e := range []api.Event{{Kind: api.ELogin}, {Kind: api.EUp}, {Kind: api.EDeliver}, {Kind: api.EEdit, Text: "ab"}} {
		if bad := w.Do(e); bad != api.OK {
			t.Error(e, bad)
		}
	}
	if up, down := w.Waiting(0); up == 0 || down != 0 {
		t.Error(up, down)
	}
	if bad := w.Do(api.Event{Kind: api.ETorn, N: 9}); bad != api.OK || w.Shot(0).View != "ab" {
		t.Error(bad, w.Shot(0))
	}
	script := []api.Event{{Kind: api.ELogin}, {Kind: api.ELogin, Client: 2}, {Kind: api.ETick}}
	part := watch.Purge(policy, 0, script)
	a, _ := watch.Observe(policy, 0, script)
	b, _ := watch.Observe(policy, 0, part)
	let, bad := watch.Releases(policy, 0, script)
	if len(part) != 2 || watch.Alike(a, b) != 2 || len(let) != 0 || bad != api.OK {
		t.Error(part, a, b, let, bad)
	}
}

// What README.md shows of texts that tell a world.
func TestReadmeConsole(t *testing.T) {
	text := "label low level 0\nlabel high level 1\nclient low secret s\nclient high secret t down\ngo\n" +
		"login 0\nlogin 1\ncarry 4\nedit 0 0 0 ac\ncarry 4\nedit 1 1 0 B\ncarry 4\nshow 0\nshow 1\npurged 0 999\n"
	line, bad := console.Check(text)
	if line != 0 || bad != api.OK {
		t.Fatal(line, bad)
	}
	report, line, bad := console.Run(text)
	if report != "ok\nok\nok\nok\nok\nok\nok\nshow 2 1 1 2 \"ac\"\nshow 2 1 2 0 \"aBc\"\npurged 9 9\n" || line != 0 || bad != api.OK {
		t.Error(report, line, bad)
	}
}

// What README.md shows of servers and clients.
func TestReadme(t *testing.T) {
	policy := house()
	k, _ := desk.New(policy)
	if fresh, bad := k.Knock(0, 1); !fresh || bad != api.OK || k.Begin(0, 1) != api.OK || k.Open(0) != api.OK || len(k.Tick()) != 0 {
		t.Error(fresh, bad)
	}
	d, _ := disk.New(1 << 20)
	s, bad := server.Open(d, policy)
	if bad != api.OK {
		t.Fatal(bad)
	}
	c, _ := client.New(policy, 0)
	c.Edit(0, 0, "ab")
	c.Login(c.Secret())
	for range 3 {
		for _, b := range c.Out() {
			if bad := s.Take(0, b); bad != api.OK {
				t.Error(bad)
			}
		}
		for _, b := range s.Out(0) {
			if bad := c.Take(b); bad != api.OK {
				t.Error(bad)
			}
		}
	}
	if told := c.Told(); len(told) != 1 || told[0] != (api.Told{Seq: 1}) || c.Pending() || s.Core().Text(0) != "ab" {
		t.Error(told, s.Core().Text(0))
	}
}
