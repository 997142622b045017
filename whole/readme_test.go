package whole

import (
	"testing"

	"sealskin/api"
	"sealskin/client"
	"sealskin/desk"
	"sealskin/disk"
	"sealskin/server"
)

// What README.md shows.
func TestReadme(t *testing.T) {
	policy := house()
	k, _ := desk.New(policy)
	if fresh, bad := k.Knock(0, 1); !fresh || bad != api.OK || k.Begin(0, 1) != api.OK || k.Open(0) != api.OK || len(k.Tick()) != 0 {
		t.Error(fresh, bad)
	}
	d, _ := disk.New(1 << 20)
	s, bad := server.Open(d, policy)
	if bad != api.OK {
		t.Fatal(bad)
	}
	c, _ := client.New(policy, 0)
	c.Edit(0, 0, "ab")
	c.Login(c.Secret())
	for range 3 {
		for _, b := range c.Out() {
			if bad := s.Take(0, b); bad != api.OK {
				t.Error(bad)
			}
		}
		for _, b := range s.Out(0) {
			if bad := c.Take(b); bad != api.OK {
				t.Error(bad)
			}
		}
	}
	if told := c.Told(); len(told) != 1 || told[0] != (api.Told{Seq: 1}) || c.Pending() || s.Core().Text(0) != "ab" {
		t.Error(told, s.Core().Text(0))
	}
}
