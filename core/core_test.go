package core

import (
	"bytes"
	"encoding/hex"
	"fmt"
	"math"
	"math/rand"
	"reflect"
	"slices"
	"strings"
	"testing"
	"time"
	"unicode/utf8"

	"sealskin/api"
	"sealskin/audit"
	"sealskin/edit"
	"sealskin/frame"
	"sealskin/lattice"
	"sealskin/octet"
)

// two is a policy of labels 0 and 1, which sees 0, with a client of each, the upper one of which may let down.
func two(lower, upper api.Quota) api.Policy {
	return api.Policy{
		Labels:  []api.Label{{}, {Level: 1}},
		Quotas:  []api.Quota{lower, upper},
		Entries: []api.Entry{{Secret: "s"}, {Label: 1, Secret: "s", Down: true}},
	}
}

// edits commits a client's edit of what it sees: a stretch becomes a text.
func edits(t *testing.T, c *Core, who, at, k int, s string) {
	t.Helper()
	label := c.Policy().Entries[who].Label
	e, bad := edit.Replace(c.Size(label), at, k, s)
	if bad != api.OK {
		t.Fatal(bad)
	}
	commits(t, c, who, e)
}

func commits(t *testing.T, c *Core, who int, e parts) {
	t.Helper()
	r, bad := c.Edit(who, c.Last(who)+1, c.Rev(c.Policy().Entries[who].Label), e)
	if bad != api.OK {
		t.Fatal(bad)
	}
	if bad := c.Apply(r); bad != api.OK {
		t.Fatal(bad)
	}
}

// lowers lets a stretch of what a client sees down.
func lowers(t *testing.T, c *Core, who, at, n, target int) {
	t.Helper()
	r, bad := c.Down(who, c.Last(who)+1, c.Rev(c.Policy().Entries[who].Label), at, n, target)
	if bad != api.OK {
		t.Fatal(bad)
	}
	if bad := c.Apply(r); bad != api.OK {
		t.Fatal(bad)
	}
}

// texts is what all labels see.
func texts(c *Core) string {
	var l []string
	for i := range c.Policy().Labels {
		l = append(l, c.Text(i))
	}
	return strings.Join(l, " ")
}

func shows(t *testing.T, c *Core, want string) {
	t.Helper()
	if got := texts(c); got != want {
		t.Errorf("%q, not %q", got, want)
	}
}

// step is a step that there must be.
func step(t *testing.T, c *Core, label, rev int) api.Step {
	t.Helper()
	s, ok := c.Step(label, rev)
	if !ok {
		t.Fatalf("no step %d at %d", rev, label)
	}
	return s
}

func isStep(t *testing.T, c *Core, label, rev, who, seq int, e ...api.Part) {
	t.Helper()
	s := step(t, c, label, rev)
	if s.Who != who || s.Seq != seq || !slices.Equal(s.Edit, e) {
		t.Errorf("step %d at %d: %v", rev, label, s)
	}
}

func TestP161New(t *testing.T) {
	c := fresh(t, four(ample()))
	for _, label := range []int{-1, 0, 1, 2, 3, 4, math.MinInt, math.MaxInt} {
		chars, ops := c.Count(label)
		_, ok := c.Step(label, 0)
		if c.Rev(label) != 0 || c.Text(label) != "" || c.Size(label) != 0 || len(c.Seen(label)) != 0 || chars != 0 || ops != 0 || c.Last(label) != 0 || ok {
			t.Errorf("at %d something is there", label)
		}
	}
	if len(c.Elems()) != 0 || c.Commits() != 0 || len(c.Audits()) != 0 {
		t.Error("something is there")
	}
	if s := c.Root(); hex.EncodeToString(s[:4]) != "69217a30" {
		t.Errorf("%x", s)
	}
	if p, bad := c.Prove(0); len(p) != 0 || bad != api.ErrArg {
		t.Error(p, bad)
	}
	wrong := []api.Policy{{}, four(api.Quota{Chars: -1}), four(api.Quota{Ops: api.MaxQuota + 1}), {Labels: make([]api.Label, 1), Quotas: make([]api.Quota, 1)}}
	for _, p := range wrong {
		if c, bad := New(p); c != nil || bad != lattice.Right(p) || bad == api.OK {
			t.Error(c, bad)
		}
	}
}

func TestP161Policy(t *testing.T) {
	p := four(ample())
	c := fresh(t, p)
	p.Labels[0].Level, p.Quotas[0].Chars, p.Entries[0].Label = 9, 0, 3
	if !reflect.DeepEqual(c.Policy(), four(ample())) {
		t.Error("it hangs on what was handed in")
	}
	q := c.Policy()
	q.Labels[0].Level, q.Quotas[0].Chars, q.Entries[0].Label = 9, 0, 3
	if !reflect.DeepEqual(c.Policy(), four(ample())) {
		t.Error("it hangs on what was handed out")
	}
	edits(t, c, 0, 0, 0, "ab")
	shows(t, c, "ab ab ab ab")
}

func TestP161Tells(t *testing.T) {
	c := fresh(t, four(ample()))
	edits(t, c, 0, 0, 0, "ad")
	edits(t, c, 1, 1, 0, "B")
	edits(t, c, 2, 1, 0, "C")
	edits(t, c, 4, 2, 0, "e")
	shows(t, c, "ade aBde aCde aCBde")
	for label, want := range [][4]int{{3, 2, 3, 2}, {4, 3, 1, 1}, {4, 3, 1, 1}, {5, 4, 0, 0}} {
		chars, ops := c.Count(label)
		if got := [4]int{c.Size(label), c.Rev(label), chars, ops}; got != want {
			t.Errorf("at %d: %v, not %v", label, got, want)
		}
	}
	for who, want := range []int{1, 1, 1, 0, 1, 0, 0} {
		if c.Last(who) != want {
			t.Errorf("Last(%d): %d", who, c.Last(who))
		}
	}
	for _, i := range []int{-1, 7, 8, 4, math.MinInt, math.MaxInt} {
		if chars, ops := c.Count(i); i != 4 && (c.Last(i) != 0 || c.Size(i) != 0) || c.Rev(i) != 0 || c.Text(i) != "" || len(c.Seen(i)) != 0 || chars != 0 || ops != 0 {
			t.Errorf("of %d something is told", i)
		}
	}
	if c.Commits() != 4 || len(c.Elems()) != 5 || len(c.Seen(left)) != 4 {
		t.Error(c.Commits(), c.Elems())
	}
	isStep(t, c, low, 0, 0, 1, put("ad"))
	isStep(t, c, high, 2, 2, 1, keep(1), put("C"), keep(2))
	isStep(t, c, left, 2, 4, 1, keep(3), put("e"))
	for _, x := range [][2]int{{low, 2}, {low, -1}, {high, 4}, {-1, 0}, {4, 0}, {low, math.MinInt}, {low, math.MaxInt}, {math.MaxInt, 0}} {
		if s, ok := c.Step(x[0], x[1]); ok || s.Who != 0 || s.Seq != 0 || len(s.Edit) != 0 {
			t.Errorf("Step(%d, %d): %v", x[0], x[1], s)
		}
	}
}

func TestP161Carry(t *testing.T) {
	c := fresh(t, four(ample()))
	edits(t, c, 0, 0, 0, "ad")
	edits(t, c, 1, 1, 0, "BB")
	edits(t, c, 2, 0, 0, "C")
	edits(t, c, 3, 5, 0, "E")
	shows(t, c, "ad aBBd Cad CaBBdE")
	for _, x := range [][4]int{
		{low, 0, low, 0}, {low, 1, low, 1}, {low, 2, low, 2},
		{low, 0, left, 0}, {low, 1, left, 1}, {low, 2, left, 4}, {low, 0, right, 0}, {low, 1, right, 2}, {low, 2, right, 3},
		{low, 0, high, 0}, {low, 1, high, 2}, {low, 2, high, 5}, {left, 2, high, 3}, {left, 4, high, 5}, {high, 6, high, 6}, {high, 0, high, 0}, {right, 1, high, 1},
	} {
		if to, bad := c.Carry(x[0], x[1], x[2]); to != x[3] || bad != api.OK {
			t.Errorf("Carry(%v): %d, %d", x, to, bad)
		}
	}
	for _, x := range []struct {
		label, at, view int
		bad             api.Errno
	}{
		{left, 0, low, api.ErrLabel}, {high, 0, low, api.ErrLabel}, {left, 0, right, api.ErrLabel}, {-1, 0, low, api.ErrLabel}, {low, 0, -1, api.ErrLabel}, {4, 0, 4, api.ErrLabel},
		{left, -1, low, api.ErrLabel}, {math.MaxInt, 0, high, api.ErrLabel}, {low, 0, math.MinInt, api.ErrLabel},
		{low, -1, low, api.ErrArg}, {low, 3, high, api.ErrArg}, {left, 5, high, api.ErrArg}, {low, math.MinInt, high, api.ErrArg}, {low, math.MaxInt, low, api.ErrArg},
	} {
		if to, bad := c.Carry(x.label, x.at, x.view); to != 0 || bad != x.bad {
			t.Errorf("Carry(%v): %d, %d", x, to, bad)
		}
	}
}

func TestP161Entry(t *testing.T) {
	b := Entry(api.Audit{Who: 1, Target: 0, At: 2, Text: "B", Commit: 5})
	if hex.EncodeToString(b) != "0000000000000001000000000000000000000000000000020000000000000005000000000000000142" {
		t.Errorf("%x", b)
	}
	b = Entry(api.Audit{Who: -1, Target: -2, At: math.MinInt, Text: "é", Commit: math.MaxInt})
	if !bytes.Equal(b, octet.PutText(octet.Put(nil, 0, 0, 0, math.MaxInt), "é")) {
		t.Errorf("%x", b)
	}
}

// spread is an edit that puts a code point at each of n places, and drops some, each by itself.
func spread(n, drops int) parts {
	var l parts
	for range n {
		l = append(l, put("x"), keep(1))
	}
	for range drops {
		l = append(l, drop(1), keep(1))
	}
	return edit.Norm(l...)
}

func TestP161Small(t *testing.T) {
	long := func(n int) string { return strings.Repeat("é", n) }
	for _, x := range []struct {
		e    parts
		want bool
	}{
		{nil, true}, {parts{keep(api.MaxIndex)}, true},
		{spread(64, 0), true}, {spread(65, 0), false}, {spread(64, 128), true}, {spread(64, 129), false}, {spread(0, 129), false},
		{parts{put(long(256))}, true}, {parts{put(long(257))}, false}, {parts{put(long(200)), keep(1), put(long(56))}, true}, {parts{put(long(200)), keep(1), put(long(57))}, false},
		{parts{drop(128)}, true}, {parts{drop(129)}, false}, {parts{drop(100), keep(1), drop(28)}, true}, {parts{drop(100), keep(1), drop(29)}, false}, {parts{drop(api.MaxIndex)}, false},
		{parts{put(long(256)), drop(128), keep(7)}, true},
		{parts{keep(1), keep(1)}, false}, {parts{drop(1), put("x")}, false}, {parts{keep(0)}, false}, {parts{keep(-1)}, false}, {parts{{}}, false}, {parts{{Kind: api.Put, N: 1, Text: "\xff"}}, false}, {parts{{Kind: api.Put, N: 2, Text: "x"}}, false}, {parts{keep(api.MaxIndex), drop(1)}, false},
	} {
		if Small(x.e) != x.want {
			t.Errorf("Small(%v)", x.e)
		}
	}
}

// halfway is a document in which all have done something: low sees ab, left aLb, right abR, high aLbRH.
func halfway(t *testing.T, q api.Quota) *Core {
	t.Helper()
	c := fresh(t, four(q))
	edits(t, c, 0, 0, 0, "ab")
	edits(t, c, 1, 1, 0, "L")
	edits(t, c, 2, 2, 0, "R")
	edits(t, c, 3, 4, 0, "H")
	shows(t, c, "ab aLb abR aLbRH")
	return c
}

func TestP162Refused(t *testing.T) {
	c := halfway(t, api.Quota{Chars: 4, Ops: 2})
	was := told(c)
	fits, bad5 := parts{keep(3), put("x")}, parts{keep(4), put("x")}
	for _, x := range []struct {
		what           string
		who, seq, base int
		e              parts
		bad            api.Errno
	}{
		{"nobody", -1, 2, 2, fits, api.ErrArg}, {"nobody", 7, 1, 2, fits, api.ErrArg}, {"nobody", math.MaxInt, -1, -1, parts{{}}, api.ErrArg}, {"nobody", math.MinInt, 1, 0, nil, api.ErrArg},
		{"an old number", 1, 1, 2, fits, api.ErrGap}, {"a later number", 1, 3, 2, fits, api.ErrGap}, {"no number", 1, 0, 2, fits, api.ErrGap}, {"a number below 0", 1, -1, 2, fits, api.ErrGap}, {"a huge number", 1, math.MaxInt, 9, nil, api.ErrGap}, {"the least number", 1, math.MinInt, 2, fits, api.ErrGap}, {"both", 1, 1, 9, nil, api.ErrGap},
		{"a later revision", 1, 2, 3, fits, api.ErrStale}, {"a revision below 0", 1, 2, -1, fits, api.ErrStale}, {"a huge revision", 1, 2, math.MaxInt, bad5, api.ErrStale}, {"the least revision", 1, 2, math.MinInt, bad5, api.ErrStale},
		{"of too few", 1, 2, 2, parts{keep(2)}, api.ErrEdit}, {"of too many", 1, 2, 2, bad5, api.ErrEdit}, {"of another revision's", 1, 2, 1, fits, api.ErrEdit}, {"of the first one's", 1, 2, 0, parts{keep(3)}, api.ErrEdit},
		{"no edit", 1, 2, 2, parts{keep(1), keep(2)}, api.ErrEdit}, {"no part", 1, 2, 2, parts{keep(3), {}}, api.ErrEdit}, {"no text", 1, 2, 2, parts{keep(3), {Kind: api.Put, N: 1, Text: "\xff"}}, api.ErrEdit},
		{"not small", 1, 2, 2, parts{drop(1), keep(2), put(strings.Repeat("x", 257))}, api.ErrEdit},
		{"what is low", 1, 2, 2, parts{drop(1), keep(2)}, api.ErrWrite}, {"what is low, and too much", 1, 2, 2, parts{put("xxxxxxxxx"), drop(2), keep(1)}, api.ErrWrite}, {"what is low, at an old revision", 1, 2, 1, parts{keep(1), drop(1)}, api.ErrWrite}, {"what is low, and one's own", 1, 2, 2, parts{keep(1), drop(2)}, api.ErrWrite},
		{"another one's of the same label", 4, 1, 1, parts{keep(1), drop(1)}, api.OK},
		{"too much", 1, 2, 2, parts{keep(3), put("xyzu")}, api.ErrQuota}, {"as much as may be", 1, 2, 2, parts{keep(3), put("xyz")}, api.OK}, {"as much, for less", 1, 2, 2, parts{keep(1), put("xyzu"), drop(1), keep(1)}, api.OK}, {"too much, for less", 1, 2, 2, parts{keep(1), put("xyzuv"), drop(1), keep(1)}, api.ErrQuota},
		{"nothing", 5, 1, 2, parts{keep(3)}, api.OK}, {"from the beginning on", 5, 1, 0, nil, api.OK},
	} {
		r, bad := c.Edit(x.who, x.seq, x.base, x.e)
		if bad != x.bad || bad != api.OK && !sameRecord(r, api.Record{}) {
			t.Errorf("%s: %v, %d; want %d", x.what, r, bad, x.bad)
		}
		if told(c) != was {
			t.Fatalf("%s: something changed", x.what)
		}
	}
}

func TestP162Ops(t *testing.T) {
	c := fresh(t, two(api.Quota{Chars: 9, Ops: 2}, api.Quota{Chars: 9, Ops: 0}))
	if _, bad := c.Edit(1, 1, 0, nil); bad != api.ErrQuota {
		t.Error(bad)
	}
	edits(t, c, 0, 0, 0, "a")
	edits(t, c, 0, 1, 0, "b")
	for _, e := range []parts{{keep(2)}, {drop(2)}, {keep(2), put("c")}} {
		if _, bad := c.Edit(0, 3, 2, e); bad != api.ErrQuota {
			t.Error(bad)
		}
	}
	if bad := c.Apply(api.Record{Kind: api.REdit, Who: 0, Seq: 3, Edit: parts{keep(2)}}); bad != api.ErrJournal {
		t.Error(bad)
	}
	c = fresh(t, two(api.Quota{Chars: 0, Ops: 3}, ample()))
	if _, bad := c.Edit(0, 1, 0, parts{put("a")}); bad != api.ErrQuota {
		t.Error(bad)
	}
	if _, bad := c.Edit(0, 1, 0, nil); bad != api.OK {
		t.Error(bad)
	}
}

func TestP162BroughtUp(t *testing.T) {
	c := fresh(t, four(ample()))
	edits(t, c, 0, 0, 0, "abcd") // abcd
	edits(t, c, 0, 2, 0, "X")    // abXcd
	edits(t, c, 4, 3, 1, "")     // abXd
	edits(t, c, 1, 2, 0, "L")    // low sees nothing of it
	e := parts{keep(2), put("Y"), drop(1), keep(1)}
	for _, x := range []struct {
		base int
		want parts
	}{
		{1, parts{keep(2), put("Y"), keep(2)}}, // ahead of X; what is dropped already is dropped no more
		{3, e},
	} {
		r, bad := c.Edit(4, 2, x.base, e)
		if bad != api.OK || !sameRecord(r, api.Record{Kind: api.REdit, Who: 4, Seq: 2, Edit: x.want}) {
			t.Errorf("of %d: %v, %d", x.base, r, bad)
		}
	}
	r, _ := c.Edit(4, 2, 1, e)
	if c.Apply(r) != api.OK {
		t.Fatal("it can't be committed")
	}
	shows(t, c, "abYXd abYLXd abYXd abYLXd")
	r, bad := c.Edit(3, 1, 0, parts{put("H")}) // of nothing: ahead of all that came
	if bad != api.OK || !slices.Equal(r.Edit, parts{put("H"), keep(6)}) {
		t.Error(r, bad)
	}
}

// What was dropped meanwhile takes no quota, and what was put does.
func TestP162QuotaBroughtUp(t *testing.T) {
	c := fresh(t, two(api.Quota{Chars: 4, Ops: 9}, ample()))
	edits(t, c, 0, 0, 0, "abc")
	edits(t, c, 0, 0, 1, "")
	for s, want := range map[string]api.Errno{"xy": api.OK, "xyz": api.ErrQuota} {
		if _, bad := c.Edit(0, 3, 1, parts{put(s), drop(1), keep(2)}); bad != want {
			t.Errorf("%q: %d", s, bad)
		}
	}
}

func TestP163Refused(t *testing.T) {
	c := halfway(t, api.Quota{Chars: 3, Ops: 3})
	edits(t, c, 3, 5, 0, "IJ") // high sees aLbRHIJ
	was := told(c)
	for _, x := range []struct {
		what                          string
		who, seq, base, at, n, target int
		bad                           api.Errno
	}{
		{"nobody", -1, 1, 5, 4, 1, low, api.ErrArg}, {"nobody", 7, -1, -5, -4, -1, -1, api.ErrArg}, {"nobody", math.MaxInt, 1, 5, 4, 1, low, api.ErrArg},
		{"an old number", 3, 2, 5, 4, 1, low, api.ErrGap}, {"a later number", 3, 4, 9, 4, 1, low, api.ErrGap}, {"a huge number", 3, math.MaxInt, 5, 4, 1, low, api.ErrGap},
		{"an old revision", 3, 3, 4, 4, 1, low, api.ErrStale}, {"the first revision", 3, 3, 0, 9, 9, 9, api.ErrStale}, {"a later revision", 3, 3, 6, 4, 1, low, api.ErrStale}, {"a revision below 0", 3, 3, -1, 4, 1, low, api.ErrStale}, {"a huge revision", 5, 1, math.MaxInt, 1, 1, low, api.ErrStale},
		{"who may not", 5, 1, 2, 1, 1, low, api.ErrRight}, {"to its own label", 3, 3, 5, 4, 1, high, api.ErrRight}, {"up", 1, 2, 2, 1, 1, high, api.ErrRight}, {"aside", 1, 2, 2, 1, 1, right, api.ErrRight}, {"to no label", 3, 3, 5, 4, 1, 4, api.ErrRight}, {"below 0", 3, 3, 5, 4, 1, -1, api.ErrRight}, {"far off", 3, 3, 5, 0, 0, math.MaxInt, api.ErrRight}, {"nothing below", 0, 2, 1, 0, 1, left, api.ErrRight},
		{"none", 3, 3, 5, 4, 0, low, api.ErrArg}, {"less than none", 3, 3, 5, 4, -1, low, api.ErrArg}, {"too many", 3, 3, 5, 4, 4, low, api.ErrArg}, {"behind the end", 3, 3, 5, 7, 1, low, api.ErrArg}, {"ahead of the beginning", 3, 3, 5, -1, 1, low, api.ErrArg}, {"more than may be", 3, 3, 5, 0, 129, low, api.ErrArg},
		{"huge", 3, 3, 5, 4, math.MaxInt, low, api.ErrArg}, {"huge places", 3, 3, 5, math.MaxInt, 1, low, api.ErrArg}, {"the least place", 3, 3, 5, math.MinInt, 1, low, api.ErrArg}, {"the least number", 3, 3, 5, 4, math.MinInt, low, api.ErrArg}, {"both huge", 3, 3, 5, math.MaxInt, math.MaxInt, low, api.ErrArg},
		{"what is low", 3, 3, 5, 0, 1, low, api.ErrWrite}, {"what is right", 3, 3, 5, 3, 1, right, api.ErrWrite}, {"with what is right", 3, 3, 5, 3, 4, low, api.ErrWrite}, {"what is low, of left", 1, 2, 2, 1, 2, low, api.ErrWrite},
		{"too much", 3, 3, 5, 4, 2, low, api.ErrQuota}, {"too much for right", 3, 3, 5, 4, 3, right, api.ErrQuota},
		{"one", 3, 3, 5, 4, 1, low, api.OK}, {"two", 3, 3, 5, 5, 2, left, api.OK},
	} {
		r, bad := c.Down(x.who, x.seq, x.base, x.at, x.n, x.target)
		want := api.Record{}
		if x.bad == api.OK {
			want = api.Record{Kind: api.RDown, Who: x.who, Seq: x.seq, At: x.at, N: x.n, Target: x.target}
		}
		if bad != x.bad || !sameRecord(r, want) {
			t.Errorf("%s: %v, %d; want %d", x.what, r, bad, x.bad)
		}
		if told(c) != was {
			t.Fatalf("%s: something changed", x.what)
		}
	}
	edits(t, c, 6, 7, 0, "")
	if _, bad := c.Down(3, 3, 6, 4, 1, low); bad != api.ErrQuota {
		t.Error("all commits are done:", bad)
	}
}

func TestP163Most(t *testing.T) {
	c := fresh(t, two(ample(), ample()))
	edits(t, c, 1, 0, 0, strings.Repeat("x", 200))
	for n, want := range map[int]api.Errno{127: api.OK, 128: api.OK, 129: api.ErrArg, 200: api.ErrArg} {
		if _, bad := c.Down(1, 2, 1, 0, n, 0); bad != want {
			t.Errorf("%d: %d", n, bad)
		}
	}
	lowers(t, c, 1, 72, 128, 0)
	if c.Size(0) != 128 || c.Size(1) != 200 || !frame.Light(step(t, c, 0, 0).Edit) {
		t.Error(c.Size(0))
	}
}

func TestP164NotNext(t *testing.T) {
	c := halfway(t, api.Quota{Chars: 3, Ops: 2})
	was := told(c)
	e := parts{keep(3), put("x")}
	for _, r := range []api.Record{
		{}, {Kind: -1, Who: 1, Seq: 2, Edit: e}, {Kind: api.RLogin, Who: 1, Seq: 2, Edit: e}, {Kind: api.RLogin, Who: 1, Seq: 2}, {Kind: 4, Who: 1, Seq: 2}, {Who: 1, Seq: 2, Edit: e},
		{Kind: api.REdit, Who: -1, Seq: 2, Edit: e}, {Kind: api.REdit, Who: 7, Seq: 1, Edit: e}, {Kind: api.REdit, Who: math.MaxInt, Seq: 1, Edit: e}, {Kind: api.RDown, Who: math.MinInt, Seq: 1, N: 1},
		{Kind: api.REdit, Who: 1, Seq: 1, Edit: e}, {Kind: api.REdit, Who: 1, Seq: 3, Edit: e}, {Kind: api.REdit, Who: 1, Edit: e},
		{Kind: api.REdit, Who: 1, Seq: 2, Edit: e, At: 1}, {Kind: api.REdit, Who: 1, Seq: 2, Edit: e, N: 1}, {Kind: api.REdit, Who: 1, Seq: 2, Edit: e, Target: 1}, {Kind: api.REdit, Who: 1, Seq: 2, Edit: e, At: -1}, {Kind: api.REdit, Who: 1, Seq: 2, Edit: e, N: -1}, {Kind: api.REdit, Who: 1, Seq: 2, Edit: e, Target: -1},
		{Kind: api.REdit, Who: 1, Seq: 2}, {Kind: api.REdit, Who: 1, Seq: 2, Edit: parts{keep(2), put("x")}}, {Kind: api.REdit, Who: 1, Seq: 2, Edit: parts{keep(2), keep(1)}}, {Kind: api.REdit, Who: 1, Seq: 2, Edit: parts{keep(3), {}}},
		{Kind: api.REdit, Who: 1, Seq: 2, Edit: parts{keep(1), put(strings.Repeat("x", 257)), keep(2)}},
		{Kind: api.REdit, Who: 1, Seq: 2, Edit: parts{drop(1), keep(2)}}, {Kind: api.REdit, Who: 1, Seq: 2, Edit: parts{keep(3), put("xyz")}},
		{Kind: api.RDown, Who: 3, Seq: 2, At: 4, N: 1, Edit: parts{keep(5)}}, {Kind: api.RDown, Who: 3, Seq: 1, At: 4, N: 1}, {Kind: api.RDown, Who: 3, Seq: 2, At: 3, N: 1}, {Kind: api.RDown, Who: 3, Seq: 2, At: 4}, {Kind: api.RDown, Who: 3, Seq: 2, At: 4, N: 2}, {Kind: api.RDown, Who: 3, Seq: 2, At: 4, N: 1, Target: 3}, {Kind: api.RDown, Who: 5, Seq: 1, At: 1, N: 1}, {Kind: api.RDown, Who: 3, Seq: 2, At: 4, N: 1, Target: 9},
	} {
		if bad := c.Apply(r); bad != api.ErrJournal || told(c) != was {
			t.Errorf("%v: %d", r, bad)
		}
	}
	good := []api.Record{{Kind: api.REdit, Who: 1, Seq: 2, Edit: e}, {Kind: api.RDown, Who: 3, Seq: 2, At: 5, N: 1}}
	for _, r := range good {
		if bad := c.Apply(r); bad != api.OK {
			t.Errorf("%v: %d", r, bad)
		}
	}
	for _, r := range good { // each once
		if bad := c.Apply(r); bad != api.ErrJournal {
			t.Errorf("%v: %d", r, bad)
		}
	}
}

func TestP164Edit(t *testing.T) {
	c := fresh(t, four(ample()))
	edits(t, c, 0, 0, 0, "abcd")
	edits(t, c, 1, 2, 0, "LM") // ab LM cd
	edits(t, c, 2, 2, 0, "R")  // ab R LM cd
	edits(t, c, 3, 4, 0, "H")  // ab R L H M cd
	shows(t, c, "abcd abLMcd abRcd abRLHMcd")
	// Low puts y behind b, drops c, and puts éz at the end: R, L, H and M stay behind what is put.
	commits(t, c, 4, parts{drop(1), keep(1), put("y"), drop(1), keep(1), put("éz")})
	shows(t, c, "bydéz byLMdéz byRdéz byRLHMdéz")
	isStep(t, c, low, 1, 4, 1, drop(1), keep(1), put("y"), drop(1), keep(1), put("éz"))
	isStep(t, c, left, 2, 4, 1, drop(1), keep(1), put("y"), keep(2), drop(1), keep(1), put("éz"))
	isStep(t, c, right, 2, 4, 1, drop(1), keep(1), put("y"), keep(1), drop(1), keep(1), put("éz"))
	isStep(t, c, high, 4, 4, 1, drop(1), keep(1), put("y"), keep(4), drop(1), keep(1), put("éz"))
	want := []api.Elem{{ID: 1025, Rune: 'b'}, {ID: 5120, Rune: 'y'}, {ID: 3072, Rune: 'R', Label: right}, {ID: 2048, Rune: 'L', Label: left}, {ID: 4096, Rune: 'H', Label: high}, {ID: 2049, Rune: 'M', Label: left}, {ID: 1027, Rune: 'd'}, {ID: 5121, Rune: 'é'}, {ID: 5122, Rune: 'z'}}
	if !slices.Equal(c.Elems(), want) {
		t.Error(c.Elems())
	}
	if c.Rev(left) != 3 || c.Rev(low) != 2 || c.Rev(high) != 5 || c.Last(4) != 1 || c.Commits() != 5 {
		t.Error(c.Rev(left), c.Rev(low), c.Rev(high), c.Last(4), c.Commits())
	}
}

// What is put at the very beginning goes ahead of what is not seen there.
func TestP164First(t *testing.T) {
	c := fresh(t, four(ample()))
	edits(t, c, 3, 0, 0, "H")
	edits(t, c, 0, 0, 0, "a")
	edits(t, c, 0, 1, 0, "b")
	shows(t, c, "ab ab ab abH")
	edits(t, c, 3, 0, 0, "G")
	edits(t, c, 0, 0, 2, "c")
	shows(t, c, "c c c cGH")
}

func TestP164Down(t *testing.T) {
	c := fresh(t, four(ample()))
	edits(t, c, 0, 0, 0, "ab")
	edits(t, c, 1, 1, 0, "LMN")
	edits(t, c, 2, 1, 0, "R") // a R LMN b
	edits(t, c, 3, 4, 0, "H") // a R LM H N b
	shows(t, c, "ab aLMNb aRb aRLMHNb")
	edits(t, c, 0, 1, 0, "c") // a c R LM H N b
	commits(t, c, 2, parts{keep(4)})
	shows(t, c, "acb acLMNb acRb acRLMHNb")
	lowers(t, c, 1, 3, 2, low) // M and N
	shows(t, c, "acMNb acLMNb acRMNb acRLMHNb")
	isStep(t, c, low, 2, 1, 0, keep(2), put("MN"), keep(1))
	isStep(t, c, right, 4, 1, 0, keep(3), put("MN"), keep(1))
	isStep(t, c, left, 3, 1, 2, keep(6))
	isStep(t, c, high, 6, 1, 2, keep(8))
	lowers(t, c, 3, 5, 1, right) // H
	isStep(t, c, right, 5, 3, 0, keep(4), put("H"), keep(2))
	isStep(t, c, high, 7, 3, 2, keep(8))
	shows(t, c, "acMNb acLMNb acRMHNb acRLMHNb")
	if c.Rev(low) != 3 || c.Rev(left) != 4 {
		t.Error("those who see no more are told")
	}
	l := c.Audits()
	if !slices.Equal(l, []api.Audit{{Who: 1, Target: low, At: 2, Text: "MN", Commit: 7}, {Who: 3, Target: right, At: 4, Text: "H", Commit: 8}}) {
		t.Error(l)
	}
	chars, ops := c.Count(low)
	if chars != 5 || ops != 2 {
		t.Error(chars, ops)
	}
	if chars, ops = c.Count(left); chars != 1 || ops != 2 {
		t.Error(chars, ops)
	}
	// What was let down is low's own from then on, and left's no more.
	if _, bad := c.Edit(1, 3, 4, parts{keep(3), drop(1), keep(2)}); bad != api.ErrWrite {
		t.Error(bad)
	}
	edits(t, c, 4, 2, 2, "")
	shows(t, c, "acb acLb acRHb acRLHb")
}

// What others put meanwhile, unseen by who lets down, stands where it stood.
func TestP164DownBehindOthers(t *testing.T) {
	c := fresh(t, four(ample()))
	edits(t, c, 1, 0, 0, "LMNO")
	r, bad := c.Edit(2, 1, 0, parts{put("QR")})
	if bad != api.OK || c.Apply(r) != api.OK {
		t.Fatal(bad)
	}
	lowers(t, c, 2, 1, 1, low) // Q R L M N O: R is low
	edits(t, c, 0, 1, 0, "x")
	lowers(t, c, 1, 2, 1, low) // L is low
	edits(t, c, 2, 4, 0, "S")  // behind L, for those who see it, ahead of M
	shows(t, c, "RxL RxLMNO QRxLS QRxLSMNO")
	edits(t, c, 2, 5, 0, "T")
	lowers(t, c, 1, 4, 1, low) // N, behind S and T
	isStep(t, c, right, c.Rev(right)-1, 1, 0, keep(6), put("N"))
	edits(t, c, 2, 6, 0, "U")
	lowers(t, c, 1, 3, 1, low) // M, ahead of N, behind all that right put just behind L
	isStep(t, c, right, c.Rev(right)-1, 1, 0, keep(7), put("M"), keep(1))
	shows(t, c, "RxLMN RxLMNO QRxLSTUMN QRxLSTUMNO")
}

// apart is a document in which left and right have n code points each, in turns, right's first.
func apart(t *testing.T, n int) *Core {
	t.Helper()
	c := fresh(t, four(ample()))
	edits(t, c, 3, 0, 0, strings.Repeat("x", n))
	lowers(t, c, 3, 0, n, low) // both see it, for now
	for at := range n {
		edits(t, c, 1, 2*at+1, 0, "L")
		edits(t, c, 2, 2*at+1, 0, "R")
	}
	for left := n; left > 0; left -= min(left, 100) {
		edits(t, c, 0, 0, min(left, 100), "")
	}
	return c
}

// A stretch in whose midst stands what its owner does not see comes in pieces to those who see that.
func TestP164P1612Apart(t *testing.T) {
	c := apart(t, 128)
	if c.Text(left) != strings.Repeat("L", 128) || c.Text(right) != strings.Repeat("R", 128) || c.Text(high) != strings.Repeat("RL", 128) {
		t.Fatal(texts(c))
	}
	lowers(t, c, 1, 0, 128, low)
	s := step(t, c, right, c.Rev(right)-1)
	if len(s.Edit) != 256 || !frame.Light(s.Edit) || c.Text(right) != strings.Repeat("RL", 128) || c.Text(low) != strings.Repeat("L", 128) {
		t.Error(len(s.Edit), texts(c))
	}
	if a := c.Audits(); a[1].At != 0 || a[1].Text != strings.Repeat("L", 128) {
		t.Error(a[1])
	}
}

// The greatest edit that may be, between all of whose parts stands what is seen above, is still light there.
func TestP1612Most(t *testing.T) {
	c := apart(t, 128)
	edits(t, c, 0, 0, 0, strings.Repeat("y", 100))
	edits(t, c, 1, 128+100, 0, strings.Repeat("z", 70))
	e := parts{keep(100), drop(128)}
	for range 63 {
		e = append(e, keep(1), put("zzzz"))
	}
	e = edit.Norm(append(e, keep(7), put("zz"))...)
	r, bad := c.Edit(1, c.Last(1)+1, c.Rev(left), e)
	if bad != api.OK || c.Apply(r) != api.OK {
		t.Fatal(bad)
	}
	s := step(t, c, high, c.Rev(high)-1)
	if !frame.Light(s.Edit) || len(s.Edit) < 256+2*64 {
		t.Error(len(s.Edit))
	}
	body, bad := frame.Put(api.Msg{Kind: api.MStep, Rev: 1, Who: 1, Seq: 2, Edit: s.Edit})
	if bad != api.OK || len(body) > 16320 {
		t.Error(len(body), bad)
	}
	if b := Put(r); len(b) > 16320 {
		t.Error("too long a record:", len(b))
	}
	shown := strings.Count(c.Text(high), "L")
	if shown != 0 || strings.Count(c.Text(high), "R") != 128 {
		t.Error(c.Text(high))
	}
}

func TestP165Put(t *testing.T) {
	r := api.Record{Kind: api.REdit, Who: 2, Seq: 3, Edit: parts{keep(1), put("é"), drop(300)}, At: 4, N: 5, Target: 6}
	want := octet.Put(nil, 1, 2, 3, 4, 5, 6, 3, 1, 1, 0, 2, 1)
	want = octet.Put(octet.PutText(want, "é"), 3, 300, 0)
	if b := Put(r); !bytes.Equal(b, want) {
		t.Errorf("%x", b)
	}
	if b := Put(api.Record{Kind: -1, Who: math.MinInt, Seq: -1, At: -1, N: -1, Target: -1, Edit: parts{{Kind: -1, N: -1}}}); !bytes.Equal(b, octet.Put(nil, 0, 0, 0, 0, 0, 0, 1, 0, 0, 0)) {
		t.Errorf("%x", b)
	}
	if b := Put(api.Record{}); !bytes.Equal(b, make([]byte, 56)) {
		t.Errorf("%x", b)
	}
	long := api.Record{Edit: make(parts, 1601)}
	if b := Put(long); len(b) != 56+24*1601 {
		t.Error(len(b))
	}
}

func TestP165Get(t *testing.T) {
	text := strings.Repeat("𝄞", 256)
	for _, r := range []api.Record{
		{}, {Kind: 1, Who: 2, Seq: 3, Edit: parts{keep(1), put("é"), drop(300)}, At: 4, N: 5, Target: 6}, {Kind: api.RLogin, Who: 7, Seq: api.MaxIndex}, {Kind: math.MaxInt, Who: math.MaxInt, Seq: math.MaxInt, At: math.MaxInt, N: math.MaxInt, Target: math.MaxInt},
		{Edit: make(parts, 1600)}, {Edit: parts{{Kind: 9, N: 3, Text: text}, {Kind: 0, N: math.MaxInt, Text: text}}}, {Kind: api.REdit, Edit: parts{keep(1), keep(1)}},
	} {
		b := Put(r)
		got, bad := Get(b)
		if bad != api.OK || !sameRecord(got, r) {
			t.Errorf("%v, %d; not %v", got, bad, r)
		}
		for _, n := range []int{0, 1, 7, 8, 55, len(b) - 1} {
			if got, bad := Get(b[:min(n, len(b)-1)]); bad != api.ErrJournal || !sameRecord(got, api.Record{}) {
				t.Errorf("%d bytes of %v: %v, %d", n, r, got, bad)
			}
		}
		if got, bad := Get(append(b, 0)); bad != api.ErrJournal || !sameRecord(got, api.Record{}) {
			t.Errorf("one more byte: %v, %d", got, bad)
		}
	}
	above := octet.Put(nil, 1, 2, 3, 4, 5, 6, 0)
	for i := range 7 {
		b := slices.Clone(above)
		b[8*i] = 128 // 2^63 and more
		if got, bad := Get(b); bad != api.ErrJournal || !sameRecord(got, api.Record{}) {
			t.Errorf("%x: %v, %d", b, got, bad)
		}
	}
	for _, r := range []api.Record{{Edit: make(parts, 1601)}, {Edit: parts{{Text: text + "x"}}}, {Edit: parts{{Text: "\xff"}}}, {Edit: parts{{Text: strings.Repeat("x", 257)}}}, {Edit: parts{{Text: "\xed\xa0\x80"}}}} {
		if got, bad := Get(Put(r)); bad != api.ErrJournal || !sameRecord(got, api.Record{}) {
			t.Errorf("%d parts: %d", len(r.Edit), bad)
		}
	}
	if _, bad := Get(octet.Put(nil, 1, 2, 3, 4, 5, 6, math.MaxInt)); bad != api.ErrJournal {
		t.Error(bad)
	}
}

func TestP165NotMade(t *testing.T) {
	var none *Core
	for _, c := range []*Core{none, {}} {
		for _, i := range []int{-1, 0, 1} {
			chars, ops := c.Count(i)
			s, ok := c.Step(i, i)
			if c.Rev(i) != 0 || c.Text(i) != "" || c.Size(i) != 0 || len(c.Seen(i)) != 0 || chars != 0 || ops != 0 || c.Last(i) != 0 || ok || len(s.Edit) != 0 {
				t.Error("something is told")
			}
			if at, bad := c.Carry(i, i, i); at != 0 || bad != api.ErrNil {
				t.Error(at, bad)
			}
			if p, bad := c.Prove(i); len(p) != 0 || bad != api.ErrNil {
				t.Error(p, bad)
			}
			if r, bad := c.Edit(i, i, i, nil); !sameRecord(r, api.Record{}) || bad != api.ErrNil {
				t.Error(r, bad)
			}
			if r, bad := c.Down(i, i, i, i, i, i); !sameRecord(r, api.Record{}) || bad != api.ErrNil {
				t.Error(r, bad)
			}
			if bad := c.Apply(api.Record{Kind: i, Who: i}); bad != api.ErrNil {
				t.Error(bad)
			}
		}
		if !reflect.DeepEqual(c.Policy(), api.Policy{}) || len(c.Elems()) != 0 || c.Commits() != 0 || len(c.Audits()) != 0 || c.Root() != (api.Sum{}) {
			t.Error("something is told")
		}
	}
}

// sight is all that is told at a label of what is seen there, without the numbers of code points, which hang on how many commits there are.
func sight(c *Core, view int) string {
	var b strings.Builder
	chars, ops := c.Count(view)
	fmt.Fprintln(&b, c.Rev(view), c.Text(view), c.Size(view), chars, ops, stepsOf(c, view))
	for _, x := range c.Seen(view) {
		fmt.Fprint(&b, x.Label, " ")
	}
	for who, x := range c.Policy().Entries {
		if lattice.Sees(c.Policy(), view, x.Label) {
			fmt.Fprint(&b, c.Last(who), " ")
		}
	}
	for at := -1; at <= c.Size(view)+1; at++ {
		to, bad := c.Carry(view, at, view)
		fmt.Fprint(&b, to, bad, " ")
	}
	return b.String()
}

// Two documents: in one of them all ask, in the other one those alone who are seen at a label. What is asked at that label and below is answered alike.
func TestP166Sight(t *testing.T) {
	k := maker{rand.New(rand.NewSource(10))}
	for i := range 120 {
		p := policies()[i%4]
		view := k.Intn(len(p.Labels))
		all, seen := fresh(t, p), fresh(t, p)
		m := newModel(p)
		for range 60 {
			if k.Intn(4) == 0 {
				who, seq, base, at, n, target := k.askDown(all, m)
				if who < 0 || who >= len(p.Entries) || !lattice.Sees(p, view, p.Entries[who].Label) && lattice.Sees(p, view, target) {
					continue // what is let down to what is seen there may show
				}
				r, bad := all.Down(who, seq, base, at, n, target)
				if lattice.Sees(p, view, p.Entries[who].Label) {
					s, wantBad := seen.Down(who, seq, base, at, n, target)
					alike(t, seen, r, s, bad, wantBad)
				}
				both(t, all, m, r, bad)
			} else {
				who, seq, base, e := k.askEdit(all, m)
				if who < 0 || who >= len(p.Entries) {
					continue
				}
				r, bad := all.Edit(who, seq, base, e)
				if lattice.Sees(p, view, p.Entries[who].Label) {
					s, wantBad := seen.Edit(who, seq, base, e)
					alike(t, seen, r, s, bad, wantBad)
				}
				both(t, all, m, r, bad)
			}
			if a, b := sight(all, view), sight(seen, view); a != b {
				t.Fatalf("%s\n%s", a, b)
			}
		}
	}
}

func alike(t *testing.T, c *Core, r, s api.Record, bad, wantBad api.Errno) {
	t.Helper()
	if bad != wantBad || !sameRecord(r, s) {
		t.Fatalf("%v, %d; without the others %v, %d", r, bad, s, wantBad)
	}
	if bad == api.OK && c.Apply(s) != api.OK {
		t.Fatal("it can't be committed")
	}
}

func both(t *testing.T, c *Core, m *model, r api.Record, bad api.Errno) {
	t.Helper()
	if bad == api.OK {
		if c.Apply(r) != api.OK {
			t.Fatal("it can't be committed")
		}
		m.commit(r)
	}
}

func TestP1611Known(t *testing.T) {
	c := fresh(t, two(ample(), ample()))
	for _, s := range []string{"a", "x", "c"} {
		edits(t, c, 0, c.Size(0), 0, s)
	}
	edits(t, c, 1, 2, 0, "B")
	lowers(t, c, 1, 2, 1, 0)
	if s := c.Root(); hex.EncodeToString(s[:]) != "efe5e9ceae4b9d4dc6944f31601c1b406e0d2c6a98b067d07b3befb3be455143" {
		t.Errorf("%x", s)
	}
	one := c.Root()
	edits(t, c, 1, 0, 0, "é𝄞")
	lowers(t, c, 1, 0, 2, 0)
	if l := c.Audits(); len(l) != 2 || l[1] != (api.Audit{Who: 1, Text: "é𝄞", Commit: 7}) {
		t.Error(l)
	}
	for i, a := range c.Audits() {
		p, bad := c.Prove(i)
		if bad != api.OK || len(p) != 1 || audit.Proves(Entry(a), i, 2, p, c.Root()) != api.OK || audit.Proves(Entry(a), 1-i, 2, p, c.Root()) != api.ErrProof {
			t.Error(i, p, bad)
		}
	}
	if c.Root() == one {
		t.Error("the root stays")
	}
	for _, i := range []int{-1, 2, math.MinInt, math.MaxInt} {
		if p, bad := c.Prove(i); len(p) != 0 || bad != api.ErrArg {
			t.Error(i, p, bad)
		}
	}
}

func TestExample(t *testing.T) {
	c := fresh(t, two(ample(), ample()))
	edits(t, c, 0, 0, 0, "ac")
	edits(t, c, 1, 1, 0, "B")
	shows(t, c, "ac aBc")
	edits(t, c, 0, 1, 0, "x")
	shows(t, c, "axc axBc")
	lowers(t, c, 1, 2, 1, 0)
	shows(t, c, "axBc axBc")
	isStep(t, c, 0, 2, 1, 0, keep(2), put("B"), keep(1))
}

func TestMemory(t *testing.T) {
	c := fresh(t, four(ample()))
	room := parts{put("ab"), {Kind: 7}}
	r, bad := c.Edit(0, 1, 0, room[:1])
	if bad != api.OK || room[1].Kind != 7 {
		t.Fatal(bad)
	}
	room[0] = api.Part{Kind: 9}
	if !slices.Equal(r.Edit, parts{put("ab")}) {
		t.Error("a record shares with what was handed in")
	}
	own := append(slices.Clone(r.Edit), api.Part{Kind: 7})
	r.Edit = own[:1]
	if c.Apply(r) != api.OK || !slices.Equal(own, parts{put("ab"), {Kind: 7}}) {
		t.Fatal("what was handed in is changed")
	}
	own[0] = api.Part{Kind: 9}
	edits(t, c, 1, 1, 0, "LM")
	lowers(t, c, 1, 1, 1, low)
	was := told(c)
	for label := range 4 {
		for rev := range c.Rev(label) {
			e := step(t, c, label, rev).Edit
			for i := range e {
				e[i] = api.Part{Kind: 9}
			}
			_ = append(e, api.Part{Kind: 9})
		}
	}
	for _, l := range [][]api.Elem{c.Elems(), c.Seen(low)} {
		for i := range l {
			l[i] = api.Elem{}
		}
		_ = append(l, api.Elem{})
	}
	a := c.Audits()
	a[0] = api.Audit{}
	_ = append(a, api.Audit{})
	if told(c) != was {
		t.Error("what is told hangs on what was handed out")
	}
	b := Put(r)
	kept := slices.Clone(b)
	Get(b)
	if !bytes.Equal(b, kept) {
		t.Error("Get changes what it is given")
	}
}

// A commit takes time by what it does, not by all that was done: a document that is full is filled at once.
func TestNotSlow(t *testing.T) {
	start := time.Now()
	p := wide()
	c := fresh(t, p)
	for i := range 4000 {
		who := i % len(p.Entries)
		label := p.Entries[who].Label
		e, _ := edit.Replace(c.Size(label), (i*7919)%(c.Size(label)+1), 0, "abcdefgh")
		commits(t, c, who, e)
	}
	if n := utf8.RuneCountInString(c.Text(31)); n != 32000 {
		t.Error(n)
	}
	r, bad := c.Edit(0, c.Last(0)+1, 0, parts{put("x")})
	if bad != api.OK || c.Apply(r) != api.OK {
		t.Error(bad)
	}
	if d := time.Since(start); d > 30*time.Second {
		t.Error(d)
	}
}
