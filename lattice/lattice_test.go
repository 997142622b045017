package lattice

import (
	"math"
	"slices"
	"strings"
	"testing"

	"sealskin/api"
)

const allComps = math.MaxUint32

// sample is labels that may be, at the edges and between, and some that may not.
func sample() []api.Label {
	var l []api.Label
	for _, level := range []int{math.MinInt, -1, 0, 1, 2, 15, 16, math.MaxInt} {
		for _, comps := range []uint32{0, 1, 2, 3, 1 << 31, allComps} {
			l = append(l, api.Label{Level: level, Comps: comps})
		}
	}
	return l
}

// allowed is a small policy that may be: one label below two that are not below one another, and one above all.
func allowed() api.Policy {
	return api.Policy{
		Labels:  []api.Label{{Level: 2, Comps: 3}, {Level: 0}, {Level: 1, Comps: 1}, {Level: 1, Comps: 2}},
		Quotas:  []api.Quota{{Chars: 1, Ops: 2, Seats: 3}, {}, {Chars: 4096, Ops: 4096, Seats: 4096}, {}},
		Entries: []api.Entry{{Label: 0, Secret: "s", Down: true}, {Label: 3, Secret: "sixteen bytes ok"}},
	}
}

// wide is a policy of so many unlike labels.
func wide(labels int) api.Policy {
	p := api.Policy{Entries: []api.Entry{{Label: 0, Secret: "s"}}}
	for i := range labels {
		p.Labels = append(p.Labels, api.Label{Level: i % 16, Comps: uint32(i / 16)})
		p.Quotas = append(p.Quotas, api.Quota{})
	}
	return p
}

func TestP11Check(t *testing.T) {
	for _, level := range []int{0, 1, 14, 15} {
		for _, comps := range []uint32{0, 1, 1 << 31, allComps} {
			if e := Check(api.Label{Level: level, Comps: comps}); e != api.OK {
				t.Errorf("level %d, comps %x: %d", level, comps, e)
			}
		}
	}
	for _, level := range []int{-1, 16, math.MinInt, math.MaxInt} {
		if e := Check(api.Label{Level: level}); e != api.ErrLabel {
			t.Errorf("level %d: %d", level, e)
		}
	}
}

func TestP11Below(t *testing.T) {
	for _, c := range []struct {
		a, b api.Label
		want bool
	}{
		{api.Label{Level: 1, Comps: 1}, api.Label{Level: 2, Comps: 3}, true},
		{api.Label{Level: 1, Comps: 1}, api.Label{Level: 2, Comps: 2}, false},
		{api.Label{Level: 2, Comps: 1}, api.Label{Level: 1, Comps: 3}, false},
		{api.Label{Level: 1, Comps: 3}, api.Label{Level: 1, Comps: 1}, false},
		{api.Label{}, api.Label{}, true},
		{api.Label{}, api.Label{Level: 15, Comps: allComps}, true},
		{api.Label{Level: 15, Comps: allComps}, api.Label{Level: 15, Comps: allComps}, true},
		{api.Label{Level: 0, Comps: 1 << 31}, api.Label{Level: 15, Comps: allComps >> 1}, false},
		{api.Label{Level: -1}, api.Label{}, true},
		{api.Label{Level: math.MaxInt}, api.Label{Level: 15, Comps: allComps}, false},
	} {
		if got := Below(c.a, c.b); got != c.want {
			t.Errorf("Below(%v, %v): %v", c.a, c.b, got)
		}
	}
}

func TestP11JoinAndMeet(t *testing.T) {
	full := api.Label{Level: 15, Comps: allComps}
	for _, c := range []struct {
		of         []api.Label
		join, meet api.Label
	}{
		{nil, api.Label{}, full},
		{[]api.Label{}, api.Label{}, full},
		{[]api.Label{{Level: 1, Comps: 1}, {Level: 2, Comps: 2}}, api.Label{Level: 2, Comps: 3}, api.Label{Level: 1}},
		{[]api.Label{{Level: 3, Comps: 5}}, api.Label{Level: 3, Comps: 5}, api.Label{Level: 3, Comps: 5}},
		{[]api.Label{{Level: 4, Comps: 6}, {Level: 2, Comps: 7}, {Level: 3, Comps: 12}}, api.Label{Level: 4, Comps: 15}, api.Label{Level: 2, Comps: 4}},
		{[]api.Label{{}, full}, full, api.Label{}},
		{[]api.Label{{Level: -2, Comps: 1}, {Level: -7, Comps: 3}}, api.Label{Level: -2, Comps: 3}, api.Label{Level: -7, Comps: 1}},
		{[]api.Label{{Level: 20}, {Level: 99}}, api.Label{Level: 99}, api.Label{Level: 20}},
	} {
		given := slices.Clone(c.of)
		if got := Join(c.of...); got != c.join {
			t.Errorf("Join(%v): %v", c.of, got)
		}
		if got := Meet(c.of...); got != c.meet {
			t.Errorf("Meet(%v): %v", c.of, got)
		}
		if !slices.Equal(given, c.of) {
			t.Errorf("changed: %v, %v", given, c.of)
		}
	}
}

func TestP12RightOfPoliciesThatMayBe(t *testing.T) {
	eight := allowed()
	for len(eight.Entries) < 8 {
		eight.Entries = append(eight.Entries, api.Entry{Label: 1, Secret: "s"})
	}
	bytesOnly := allowed()
	bytesOnly.Entries[0].Secret = "\xff\x00"
	for name, p := range map[string]api.Policy{"small": allowed(), "one label": wide(1), "32 labels": wide(32), "eight entries": eight, "secret of any bytes": bytesOnly} {
		if e := Right(p); e != api.OK {
			t.Errorf("%s: %d", name, e)
		}
	}
}

func TestP12RightOfPoliciesThatMayNot(t *testing.T) {
	wrong := map[string]func(p *api.Policy){
		"nothing":                func(p *api.Policy) { *p = api.Policy{} },
		"no labels":              func(p *api.Policy) { p.Labels, p.Quotas = nil, nil },
		"33 labels":              func(p *api.Policy) { *p = wide(33) },
		"level below 0":          func(p *api.Policy) { p.Labels[1].Level = -1 },
		"level above 15":         func(p *api.Policy) { p.Labels[3].Level = 16 },
		"two like labels":        func(p *api.Policy) { p.Labels[3] = p.Labels[0] },
		"a quota too few":        func(p *api.Policy) { p.Quotas = p.Quotas[:3] },
		"a quota too many":       func(p *api.Policy) { p.Quotas = append(p.Quotas, api.Quota{}) },
		"no quotas":              func(p *api.Policy) { p.Quotas = nil },
		"chars below 0":          func(p *api.Policy) { p.Quotas[0].Chars = -1 },
		"chars above 4096":       func(p *api.Policy) { p.Quotas[3].Chars = 4097 },
		"ops below 0":            func(p *api.Policy) { p.Quotas[0].Ops = math.MinInt },
		"ops above 4096":         func(p *api.Policy) { p.Quotas[3].Ops = 4097 },
		"seats below 0":          func(p *api.Policy) { p.Quotas[0].Seats = -1 },
		"seats above 4096":       func(p *api.Policy) { p.Quotas[3].Seats = math.MaxInt },
		"no entries":             func(p *api.Policy) { p.Entries = nil },
		"entries empty":          func(p *api.Policy) { p.Entries = []api.Entry{} },
		"nine entries":           func(p *api.Policy) { p.Entries = slices.Repeat(p.Entries[:1], 9) },
		"entry below 0":          func(p *api.Policy) { p.Entries[0].Label = -1 },
		"entry past the end":     func(p *api.Policy) { p.Entries[1].Label = 4 },
		"no secret":              func(p *api.Policy) { p.Entries[1].Secret = "" },
		"secret of 17 bytes":     func(p *api.Policy) { p.Entries[1].Secret = strings.Repeat("x", 17) },
		"secret of 17, as runes": func(p *api.Policy) { p.Entries[1].Secret = strings.Repeat("é", 8) + "x" },
	}
	for name, spoil := range wrong {
		p := allowed()
		spoil(&p)
		if e := Right(p); e != api.ErrPolicy {
			t.Errorf("%s: %d", name, e)
		}
	}
}

func TestP12Sight(t *testing.T) {
	p := allowed()
	for i, c := range []struct{ viewers, seen []int }{
		{[]int{0}, []int{0, 1, 2, 3}},
		{[]int{0, 1, 2, 3}, []int{1}},
		{[]int{0, 2}, []int{1, 2}},
		{[]int{0, 3}, []int{1, 3}},
	} {
		if got := Viewers(p, i); !slices.Equal(got, c.viewers) {
			t.Errorf("Viewers(%d): %v", i, got)
		}
		if got := Seen(p, i); !slices.Equal(got, c.seen) {
			t.Errorf("Seen(%d): %v", i, got)
		}
		for j := range p.Labels {
			if Sees(p, i, j) != slices.Contains(c.seen, j) || Sees(p, j, i) != slices.Contains(c.viewers, j) {
				t.Errorf("Sees(%d, %d) or the other way", i, j)
			}
		}
	}
}

func TestP12PlacesThatAreNone(t *testing.T) {
	p := allowed()
	for _, i := range []int{math.MinInt, -1, 4, math.MaxInt} {
		if Sees(p, i, 1) || Sees(p, 0, i) || Sees(p, i, i) {
			t.Errorf("Sees at %d", i)
		}
		if l := Viewers(p, i); len(l) != 0 {
			t.Errorf("Viewers(%d): %v", i, l)
		}
		if l := Seen(p, i); len(l) != 0 {
			t.Errorf("Seen(%d): %v", i, l)
		}
	}
	var none api.Policy
	if i, ok := At(none, api.Label{}); i != 0 || ok || Sees(none, 0, 0) || len(Viewers(none, 0)) != 0 || len(Seen(none, 0)) != 0 {
		t.Error("a policy without labels")
	}
}

func TestP12At(t *testing.T) {
	p := allowed()
	for i, l := range p.Labels {
		if at, ok := At(p, l); at != i || !ok {
			t.Errorf("At(%v): %d, %v", l, at, ok)
		}
	}
	for _, l := range []api.Label{{Level: 2, Comps: 2}, {Level: 1, Comps: 3}, {Level: -1}} {
		if at, ok := At(p, l); at != 0 || ok {
			t.Errorf("At(%v): %d, %v", l, at, ok)
		}
	}
}

// Of policies that may not be the same is told, by their lists as they are.
func TestP12PoliciesThatMayNotBe(t *testing.T) {
	p := wide(40)
	p.Quotas, p.Entries = nil, nil
	p.Labels[35] = api.Label{Level: -3, Comps: 0}
	p.Labels[36] = api.Label{Level: 77, Comps: allComps}
	p.Labels[37] = p.Labels[36]
	if !Sees(p, 37, 35) || Sees(p, 35, 37) || !Sees(p, 36, 37) || !Sees(p, 37, 36) {
		t.Error("Sees")
	}
	if l := Viewers(p, 36); !slices.Equal(l, []int{36, 37}) {
		t.Error(l)
	}
	if l := Seen(p, 35); !slices.Equal(l, []int{35}) {
		t.Error(l)
	}
	if l := Seen(p, 37); len(l) != 40 || !slices.IsSorted(l) {
		t.Error(l)
	}
	if at, ok := At(p, p.Labels[37]); at != 36 || !ok {
		t.Error(at, ok)
	}
	if c := Clone(p); !samePolicy(c, p) {
		t.Error(c)
	}
}

func samePolicy(a, b api.Policy) bool {
	return slices.Equal(a.Labels, b.Labels) && slices.Equal(a.Quotas, b.Quotas) && slices.Equal(a.Entries, b.Entries)
}

func TestP12Clone(t *testing.T) {
	p := allowed()
	c := Clone(p)
	if !samePolicy(c, allowed()) {
		t.Fatal(c)
	}
	c.Labels[0], c.Quotas[0], c.Entries[0] = api.Label{Level: 9}, api.Quota{Ops: 9}, api.Entry{Label: 9}
	if !samePolicy(p, allowed()) {
		t.Fatal("the clone shares memory")
	}
	if c := Clone(api.Policy{}); !samePolicy(c, api.Policy{}) {
		t.Fatal(c)
	}
}

// What is put behind an answer's end, or behind a clone's, shows nowhere else.
func TestMemory(t *testing.T) {
	p := allowed()
	p.Labels = append(make([]api.Label, 0, 9), p.Labels...)
	room := p.Labels[:9]
	c := Clone(p)
	_ = append(c.Labels, api.Label{Level: 5})
	if room[4] != (api.Label{}) {
		t.Error("the room behind the policy's end was written")
	}
	a, b := Seen(p, 0), Seen(p, 0)
	a[0] = 7
	if b[0] != 0 {
		t.Error("two answers share memory")
	}
}

func TestP13Order(t *testing.T) {
	l := sample()
	for _, a := range l {
		if !Below(a, a) {
			t.Fatalf("%v is not below itself", a)
		}
		for _, b := range l {
			if Below(a, b) && Below(b, a) && a != b {
				t.Fatalf("%v and %v are below one another", a, b)
			}
			for _, c := range l {
				if Below(a, b) && Below(b, c) && !Below(a, c) {
					t.Fatalf("%v, %v, %v", a, b, c)
				}
			}
		}
	}
}

func TestP14Lattice(t *testing.T) {
	l := sample()
	for _, a := range l {
		for _, b := range l {
			j, m := Join(a, b), Meet(a, b)
			if !Below(a, j) || !Below(b, j) || !Below(m, a) || !Below(m, b) {
				t.Fatalf("%v, %v: %v, %v", a, b, j, m)
			}
			for _, c := range l {
				if Below(a, c) && Below(b, c) && !Below(j, c) || Below(c, a) && Below(c, b) && !Below(c, m) {
					t.Fatalf("%v, %v, held against %v", a, b, c)
				}
			}
		}
		if Check(a) == api.OK && (!Below(Join(), a) || !Below(a, Meet())) {
			t.Fatalf("%v and what is of no labels", a)
		}
	}
}

func TestP15Laws(t *testing.T) {
	l := sample()
	for _, a := range l {
		for _, b := range l {
			if Join(a, Meet(a, b)) != a || Meet(a, Join(a, b)) != a {
				t.Fatalf("%v, %v: one does not take up the other", a, b)
			}
			if Join(a, b) != Join(b, a) || Join(a, b) != Join(a, b, a, b, b) || Meet(a, b) != Meet(b, a) || Meet(a, b) != Meet(a, b, a, b, b) {
				t.Fatalf("%v, %v: order or repetition tells", a, b)
			}
			for _, c := range l {
				if Join(a, b, c) != Join(c, a, b) || Join(a, b, c) != Join(a, Join(b, c)) || Meet(a, b, c) != Meet(c, a, b) || Meet(a, b, c) != Meet(a, Meet(b, c)) {
					t.Fatalf("%v, %v, %v: order tells", a, b, c)
				}
			}
		}
	}
}

func TestP16Sight(t *testing.T) {
	for _, p := range []api.Policy{allowed(), wide(32), {Labels: sample()}} {
		for v := range p.Labels {
			for _, w := range Seen(p, v) {
				if !slices.Contains(Viewers(p, w), v) {
					t.Fatalf("%d sees %d, which does not know of it", v, w)
				}
				for _, x := range Seen(p, w) {
					if !Sees(p, v, x) {
						t.Fatalf("%d sees %d, which sees %d", v, w, x)
					}
				}
			}
		}
	}
}
