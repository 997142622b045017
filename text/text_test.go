package text

import (
	"math"
	"slices"
	"strings"
	"testing"

	"sealskin/api"
)

func TestRunes(t *testing.T) {
	for _, c := range []struct {
		s    string
		most int
		want []rune
		bad  api.Errno
	}{
		{"", 0, nil, api.OK},
		{"aé𝄞", 3, []rune{'a', 'é', '𝄞'}, api.OK},
		{"aé𝄞", 2, nil, api.ErrLong},
		{"\ufffd", 1, []rune{'\ufffd'}, api.OK},
		{"a\xff", 1, nil, api.ErrText},
		{"\xed\xa0\x80", 9, nil, api.ErrText},
		{"\xc0\x80", 9, nil, api.ErrText},
		{"a\x00", math.MaxInt, []rune{'a', 0}, api.OK},
	} {
		if r, bad := Runes(c.s, c.most); !slices.Equal(r, c.want) || bad != c.bad {
			t.Errorf("Runes(%q, %d): %v, %d", c.s, c.most, r, bad)
		}
	}
	if _, bad := Runes(strings.Repeat("é", 1<<22), 1<<22-1); bad != api.ErrLong {
		t.Error(bad)
	}
}

func TestPatch(t *testing.T) {
	var p Patch
	if e := p.Edit(3); !slices.Equal(e, []api.Part{{Kind: api.Keep, N: 3}}) {
		t.Error(e)
	}
	if e := p.Edit(0); len(e) != 0 {
		t.Error(e)
	}
	p.Put(1, 2, "éx")
	p.Put(2, 2, "y")
	p.Put(4, 5, "")
	want := []api.Part{{Kind: api.Keep, N: 1}, {Kind: api.Put, N: 3, Text: "éxy"}, {Kind: api.Drop, N: 1}, {Kind: api.Keep, N: 2}, {Kind: api.Drop, N: 1}, {Kind: api.Keep, N: 2}}
	for range 2 {
		if e := p.Edit(7); !slices.Equal(e, want) {
			t.Error(e)
		}
	}
	if e := p.Edit(5); !slices.Equal(e, want[:5]) {
		t.Error(e)
	}
}
