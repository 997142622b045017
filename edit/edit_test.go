package edit

import (
	"math"
	"slices"
	"testing"
	"unicode/utf8"

	"sealskin/api"
)

const most = api.MaxIndex

func ins(s string) api.Part { return put(utf8.RuneCountInString(s), s) }

type parts = []api.Part

// unfit is parts that do not fit, each for one reason.
func unfit() parts {
	return parts{
		{}, {N: 1}, {Kind: 4, N: 1}, {Kind: -1, N: 1}, {Kind: math.MaxInt, N: 1},
		keep(0), keep(-1), keep(math.MinInt), keep(most + 1), keep(math.MaxInt),
		drop(0), drop(-1), drop(math.MinInt), drop(most + 1), drop(math.MaxInt),
		{Kind: api.Keep, N: 1, Text: "x"}, {Kind: api.Drop, N: 1, Text: "x"},
		put(0, ""), put(1, ""), put(0, "x"), put(2, "x"), put(1, "xy"), put(2, "é"), put(-1, "x"), put(most, "x"), put(most+1, "x"),
		put(1, "\xff"), put(2, "x\xff"), put(1, "\xed\xa0\x80"), put(3, "\xed\xa0\x80"), put(1, "\xc0\x80"),
	}
}

// edits is edits, with how many they are of and make.
func edits() []struct {
	e        parts
	from, to int
} {
	return []struct {
		e        parts
		from, to int
	}{
		{nil, 0, 0},
		{parts{}, 0, 0},
		{parts{keep(1)}, 1, 1},
		{parts{drop(1)}, 1, 0},
		{parts{ins("é")}, 0, 1},
		{parts{put(3, "a\x00𝄞")}, 0, 3},
		{parts{keep(2), ins("xy"), drop(3), keep(4)}, 9, 8},
		{parts{drop(3), keep(2), ins("xy")}, 5, 4},
		{parts{ins("\ufffd"), keep(1), drop(1)}, 2, 2},
		{parts{keep(most)}, most, most},
		{parts{drop(most)}, most, 0},
		{parts{ins("x"), keep(most - 1)}, most - 1, most},
		{parts{ins("x"), drop(1), keep(most - 1)}, most, most},
	}
}

// noEdits is parts that fit, but are no edit.
func noEdits() []parts {
	return []parts{
		{keep(1), keep(1)}, {drop(1), drop(1)}, {ins("a"), ins("b")}, {drop(1), ins("a")}, {keep(1), drop(1), ins("a"), keep(1)},
		{keep(most), drop(1)}, {drop(1), keep(most)}, {keep(most), ins("a")}, {ins("a"), keep(most)},
		{keep(most), drop(most)}, {drop(most), keep(1), drop(most)},
	}
}

func TestP31CheckAndSize(t *testing.T) {
	for _, c := range edits() {
		if from, to, bad := Size(c.e); from != c.from || to != c.to || bad != api.OK {
			t.Errorf("Size(%v): %d, %d, %d", c.e, from, to, bad)
		}
		if Check(c.e, c.from) != api.OK {
			t.Errorf("Check(%v, %d)", c.e, c.from)
		}
		for _, n := range []int{c.from - 1, c.from + 1, -1, math.MinInt, math.MaxInt} {
			if n != c.from && Check(c.e, n) != api.ErrEdit {
				t.Errorf("Check(%v, %d)", c.e, n)
			}
		}
	}
	wrong := noEdits()
	for _, p := range unfit() {
		wrong = append(wrong, parts{p}, parts{keep(1), p, keep(1)})
	}
	for _, e := range wrong {
		if from, to, bad := Size(e); from != 0 || to != 0 || bad != api.ErrEdit {
			t.Errorf("Size(%v): %d, %d, %d", e, from, to, bad)
		}
		for _, n := range []int{0, 1, 2, 3, most, most + 1} {
			if Check(e, n) != api.ErrEdit {
				t.Errorf("Check(%v, %d)", e, n)
			}
		}
	}
}

// Sums far beyond all limits are refused, and do not go round.
func TestP31HugeSums(t *testing.T) {
	var e parts
	for range 1 << 12 {
		e = append(e, keep(most), drop(most))
	}
	if from, to, bad := Size(e); from != 0 || to != 0 || bad != api.ErrEdit {
		t.Error(from, to, bad)
	}
	if n := len(Norm(slices.Repeat(parts{keep(most)}, 1<<12)...)); n != 1 {
		t.Error(n)
	}
	if plus(math.MaxInt-1, 1) != math.MaxInt || plus(math.MaxInt, most) != math.MaxInt || plus(1, 2) != 3 {
		t.Error("plus")
	}
}

func TestP31Norm(t *testing.T) {
	for _, c := range []struct{ l, want parts }{
		{nil, nil},
		{parts{keep(1), keep(2)}, parts{keep(3)}},
		{parts{drop(1), drop(2)}, parts{drop(3)}},
		{parts{ins("a"), ins("bé"), ins("c")}, parts{ins("abéc")}},
		{parts{drop(1), ins("a")}, parts{ins("a"), drop(1)}},
		{parts{ins("a"), drop(1), ins("b")}, parts{ins("ab"), drop(1)}},
		{parts{drop(1), ins("a"), drop(2), ins("b"), drop(3)}, parts{ins("ab"), drop(6)}},
		{parts{keep(1), drop(1), ins("a"), keep(1), ins("b")}, parts{keep(1), ins("a"), drop(1), keep(1), ins("b")}},
		{parts{ins("a"), keep(1), drop(2), keep(1), drop(1)}, parts{ins("a"), keep(1), drop(2), keep(1), drop(1)}},
		{parts{keep(most), keep(most), keep(1)}, parts{keep(2*most + 1)}},
		{parts{drop(most), ins("x"), drop(most)}, parts{ins("x"), drop(2 * most)}},
	} {
		if got := Norm(c.l...); !slices.Equal(got, c.want) {
			t.Errorf("Norm(%v): %v, want %v", c.l, got, c.want)
		}
	}
	for _, p := range unfit() {
		if got := Norm(p, keep(1), p, keep(2), ins("a"), p, ins("b"), p); !slices.Equal(got, parts{keep(3), ins("ab")}) {
			t.Errorf("%v is not left out: %v", p, got)
		}
		if got := Norm(p); len(got) != 0 {
			t.Errorf("Norm(%v): %v", p, got)
		}
	}
	for _, c := range edits() {
		if got := Norm(c.e...); !slices.Equal(got, c.e) {
			t.Errorf("Norm(%v): %v", c.e, got)
		}
	}
}

func TestP31Weight(t *testing.T) {
	for _, c := range []struct {
		e           parts
		puts, drops int
	}{
		{nil, 0, 0},
		{parts{keep(7)}, 0, 0},
		{parts{ins("é𝄞"), drop(5), keep(1), ins("x"), drop(2)}, 3, 7},
		{parts{drop(1), drop(2), ins("a"), ins("bc")}, 3, 3},
		{parts{drop(most), drop(most)}, 0, 2 * most},
	} {
		if puts, drops := Weight(c.e); puts != c.puts || drops != c.drops {
			t.Errorf("Weight(%v): %d, %d", c.e, puts, drops)
		}
	}
	for _, p := range unfit() {
		if puts, drops := Weight(parts{ins("a"), drop(1), p}); puts != 0 || drops != 0 {
			t.Errorf("Weight with %v: %d, %d", p, puts, drops)
		}
	}
}

func TestP31Changes(t *testing.T) {
	for _, c := range []struct {
		e    parts
		want bool
	}{
		{nil, false}, {parts{keep(1)}, false}, {parts{keep(-1), {Kind: api.Keep, Text: "x"}}, false},
		{parts{keep(1), drop(1)}, true}, {parts{ins("a")}, true}, {parts{keep(1), {}}, true}, {parts{{Kind: 9}, keep(1)}, true}, {parts{drop(-1)}, true},
	} {
		if Changes(c.e) != c.want {
			t.Errorf("Changes(%v)", c.e)
		}
	}
}

func TestP32Replace(t *testing.T) {
	for _, c := range []struct {
		n, at, k int
		s        string
		want     parts
	}{
		{5, 2, 1, "xy", parts{keep(2), ins("xy"), drop(1), keep(2)}},
		{0, 0, 0, "", nil},
		{0, 0, 0, "é", parts{ins("é")}},
		{3, 0, 3, "", parts{drop(3)}},
		{3, 3, 0, "x", parts{keep(3), ins("x")}},
		{3, 1, 0, "", parts{keep(3)}},
		{3, 0, 1, "", parts{drop(1), keep(2)}},
		{most, 0, 0, "", parts{keep(most)}},
		{most, most, 0, "", parts{keep(most)}},
		{most, 0, most, "", parts{drop(most)}},
		{most - 2, 1, 1, "éx", parts{keep(1), ins("éx"), drop(1), keep(most - 4)}},
	} {
		if e, bad := Replace(c.n, c.at, c.k, c.s); bad != api.OK || !slices.Equal(e, c.want) {
			t.Errorf("Replace(%d, %d, %d, %q): %v, %d", c.n, c.at, c.k, c.s, e, bad)
		}
	}
	for _, c := range []struct {
		n, at, k int
		s        string
	}{
		{-1, 0, 0, ""}, {math.MinInt, 0, 0, ""}, {most + 1, 0, 0, ""}, {math.MaxInt, 1, 1, ""}, {3, -1, 0, ""}, {3, 4, 0, ""}, {3, 1, -1, ""}, {3, 1, 3, ""}, {3, 3, 1, ""},
		{3, 1, math.MaxInt, ""}, {3, math.MinInt, math.MaxInt, ""}, {3, math.MaxInt, math.MinInt, ""}, {3, 1, 1, "\xff"}, {3, 1, 1, "a\xed\xa0\x80"},
		{most, 0, 0, "x"}, {most, 0, 1, "x"}, {most - 1, 0, most - 1, "éx"}, {most, 0, most, "x"},
	} {
		if e, bad := Replace(c.n, c.at, c.k, c.s); len(e) != 0 || bad != api.ErrEdit {
			t.Errorf("Replace(%d, %d, %d, %q): %v, %d", c.n, c.at, c.k, c.s, e, bad)
		}
	}
}

func TestP32Same(t *testing.T) {
	for _, n := range []int{1, 2, most} {
		if e, bad := Same(n); bad != api.OK || !slices.Equal(e, parts{keep(n)}) {
			t.Errorf("Same(%d): %v, %d", n, e, bad)
		}
	}
	if e, bad := Same(0); len(e) != 0 || bad != api.OK {
		t.Error(e, bad)
	}
	for _, n := range []int{-1, most + 1, math.MinInt, math.MaxInt} {
		if e, bad := Same(n); len(e) != 0 || bad != api.ErrEdit {
			t.Errorf("Same(%d): %v, %d", n, e, bad)
		}
	}
}

func TestP33ApplyAndInvert(t *testing.T) {
	for _, c := range []struct {
		e       parts
		s, want string
		back    parts
	}{
		{nil, "", "", nil},
		{parts{keep(2), ins("xy"), drop(1), keep(2)}, "hello", "hexylo", parts{keep(2), ins("l"), drop(2), keep(2)}},
		{parts{ins("é")}, "", "é", parts{drop(1)}},
		{parts{drop(2)}, "𝄞é", "", parts{ins("𝄞é")}},
		{parts{ins("x"), keep(1), drop(2), keep(1)}, "é𝄞\x00ñ", "xéñ", parts{drop(1), keep(1), ins("𝄞\x00"), keep(1)}},
		{parts{keep(3)}, "aé\ufffd", "aé\ufffd", parts{keep(3)}},
	} {
		if s, bad := Apply(c.e, c.s); s != c.want || bad != api.OK {
			t.Errorf("Apply(%v, %q): %q, %d", c.e, c.s, s, bad)
		}
		if e, bad := Invert(c.e, c.s); !slices.Equal(e, c.back) || bad != api.OK {
			t.Errorf("Invert(%v, %q): %v, %d", c.e, c.s, e, bad)
		}
	}
	type pair struct {
		e parts
		s string
	}
	wrong := []pair{{nil, "a"}, {parts{keep(1)}, ""}, {parts{keep(2)}, "é"}, {parts{keep(1)}, "\xff"}, {parts{keep(3)}, "\xed\xa0\x80"}, {parts{drop(most)}, "a"}, {parts{drop(1), ins("a")}, "a"}}
	for _, p := range unfit() {
		wrong = append(wrong, pair{parts{p}, ""}, pair{parts{p}, "x"}, pair{parts{keep(1), p}, "x"})
	}
	for _, c := range wrong {
		if s, bad := Apply(c.e, c.s); s != "" || bad != api.ErrEdit {
			t.Errorf("Apply(%v, %q): %q, %d", c.e, c.s, s, bad)
		}
		if e, bad := Invert(c.e, c.s); len(e) != 0 || bad != api.ErrEdit {
			t.Errorf("Invert(%v, %q): %v, %d", c.e, c.s, e, bad)
		}
	}
}

func TestP34Compose(t *testing.T) {
	for _, c := range []struct{ a, b, want parts }{
		{nil, nil, nil},
		{parts{keep(1), ins("xy"), drop(1), keep(1)}, parts{keep(2), ins("z"), drop(2)}, parts{keep(1), ins("xz"), drop(2)}},
		{parts{ins("abc")}, parts{keep(1), drop(1), keep(1)}, parts{ins("ac")}},
		{parts{ins("é𝄞")}, parts{drop(2)}, nil},
		{parts{ins("x"), keep(2)}, parts{drop(1), keep(2)}, parts{keep(2)}},
		{parts{drop(1), keep(1)}, parts{ins("y"), keep(1)}, parts{ins("y"), drop(1), keep(1)}},
		{parts{ins("x"), drop(1)}, parts{ins("y"), keep(1)}, parts{ins("yx"), drop(1)}},
		{parts{ins("x"), drop(1), keep(1)}, parts{keep(1), ins("y"), keep(1)}, parts{ins("xy"), drop(1), keep(1)}},
		{parts{drop(1), keep(1), drop(1), keep(1)}, parts{drop(1), keep(1)}, parts{drop(3), keep(1)}},
		{parts{keep(3)}, parts{keep(1), drop(1), keep(1)}, parts{keep(1), drop(1), keep(1)}},
		{parts{ins("ab")}, parts{keep(1), ins("𝄞"), keep(1)}, parts{ins("a𝄞b")}},
		{parts{drop(most)}, parts{ins("x")}, parts{ins("x"), drop(most)}},
		{parts{keep(most - 1), ins("x")}, parts{drop(most)}, parts{drop(most - 1)}},
	} {
		if e, bad := Compose(c.a, c.b); bad != api.OK || !slices.Equal(e, c.want) {
			t.Errorf("Compose(%v, %v): %v, %d; want %v", c.a, c.b, e, bad, c.want)
		}
	}
	wrong := [][2]parts{{nil, {keep(1)}}, {{keep(1)}, nil}, {{keep(1)}, {keep(2)}}, {{ins("x")}, nil}, {{drop(1)}, {keep(1)}}}
	for _, e := range noEdits() {
		wrong = append(wrong, [2]parts{e, nil}, [2]parts{nil, e}, [2]parts{e, {keep(1)}}, [2]parts{{keep(2)}, e}, [2]parts{e, e})
	}
	for _, p := range unfit() {
		wrong = append(wrong, [2]parts{{p}, nil}, [2]parts{nil, {p}}, [2]parts{{keep(1)}, {p}}, [2]parts{{p}, {keep(1)}})
	}
	for _, c := range wrong {
		if e, bad := Compose(c[0], c[1]); len(e) != 0 || bad != api.ErrEdit {
			t.Errorf("Compose(%v, %v): %v, %d", c[0], c[1], e, bad)
		}
	}
}

func TestP35Transform(t *testing.T) {
	for _, c := range []struct{ a, b, one, two parts }{
		{nil, nil, nil, nil},
		{parts{keep(1), ins("a"), keep(1)}, parts{keep(1), ins("b"), keep(1)}, parts{keep(1), ins("a"), keep(2)}, parts{keep(2), ins("b"), keep(1)}},
		{parts{drop(2), keep(1)}, parts{keep(1), drop(2)}, parts{drop(1)}, parts{drop(1)}},
		{parts{drop(3)}, parts{drop(3)}, nil, nil},
		{parts{ins("x"), drop(1)}, parts{ins("yz"), drop(1)}, parts{ins("x"), keep(2)}, parts{keep(1), ins("yz")}},
		{parts{drop(2)}, parts{keep(1), ins("é"), keep(1)}, parts{drop(1), keep(1), drop(1)}, parts{ins("é")}},
		{parts{keep(2)}, parts{ins("x"), drop(1), keep(1)}, parts{keep(2)}, parts{ins("x"), drop(1), keep(1)}},
		{parts{drop(1), keep(1), ins("x")}, parts{keep(1), drop(1)}, parts{ins("x"), drop(1)}, parts{drop(1), keep(1)}},
		{parts{drop(1), keep(1), ins("x"), keep(1)}, parts{keep(1), drop(1), keep(1)}, parts{ins("x"), drop(1), keep(1)}, parts{drop(1), keep(2)}},
		{parts{ins("x"), drop(most)}, parts{ins("y"), drop(1), keep(most - 1)}, parts{ins("x"), keep(1), drop(most - 1)}, parts{keep(1), ins("y")}},
		{parts{keep(most - 2), ins("x")}, parts{ins("y"), keep(most - 2)}, parts{keep(most - 1), ins("x")}, parts{ins("y"), keep(most - 1)}},
	} {
		if one, two, bad := Transform(c.a, c.b); bad != api.OK || !slices.Equal(one, c.one) || !slices.Equal(two, c.two) {
			t.Errorf("Transform(%v, %v): %v, %v, %d; want %v, %v", c.a, c.b, one, two, bad, c.one, c.two)
		}
	}
}

func TestP35Refused(t *testing.T) {
	wrong := [][2]parts{{nil, {keep(1)}}, {{keep(1)}, nil}, {{keep(1)}, {keep(2)}}, {{keep(2)}, {drop(1)}}, {{ins("x"), keep(1)}, {keep(2)}}}
	for _, e := range noEdits() {
		wrong = append(wrong, [2]parts{e, nil}, [2]parts{nil, e}, [2]parts{e, e}, [2]parts{e, {keep(2)}}, [2]parts{{keep(2)}, e})
	}
	for _, p := range unfit() {
		wrong = append(wrong, [2]parts{{p}, nil}, [2]parts{nil, {p}}, [2]parts{{p}, {p}}, [2]parts{{keep(1)}, {p}}, [2]parts{{p}, {keep(1)}})
	}
	for _, c := range wrong {
		if one, two, bad := Transform(c[0], c[1]); len(one) != 0 || len(two) != 0 || bad != api.ErrEdit {
			t.Errorf("Transform(%v, %v): %v, %v, %d", c[0], c[1], one, two, bad)
		}
	}
	for _, c := range [][2]parts{
		{{keep(most - 1), ins("x")}, {ins("y"), keep(most - 1)}},
		{{ins("x"), keep(most - 1)}, {ins("y"), keep(most - 1)}},
		{{ins("x"), drop(1), keep(most - 1)}, {ins("y"), drop(1), keep(most - 1)}},
	} {
		if one, two, bad := Transform(c[0], c[1]); len(one) != 0 || len(two) != 0 || bad != api.ErrLong {
			t.Errorf("Transform(%v, %v): %v, %v, %d", c[0], c[1], one, two, bad)
		}
	}
}

func TestP36Cursor(t *testing.T) {
	e := parts{ins("ab"), keep(2), ins("x"), drop(2), keep(1), drop(1), keep(2), ins("é")}
	behind := []int{0, 3, 4, 5, 5, 6, 6, 7, 8}
	ahead := []int{2, 3, 5, 5, 5, 6, 6, 7, 9}
	for at := range behind {
		if to, bad := Cursor(e, at, false); to != behind[at] || bad != api.OK {
			t.Errorf("%d: %d, %d; want %d", at, to, bad, behind[at])
		}
		if to, bad := Cursor(e, at, true); to != ahead[at] || bad != api.OK {
			t.Errorf("%d, ahead: %d, %d; want %d", at, to, bad, ahead[at])
		}
	}
	if to, bad := Cursor(nil, 0, true); to != 0 || bad != api.OK {
		t.Error(to, bad)
	}
	if to, bad := Cursor(parts{ins("x"), keep(most - 1)}, most-1, false); to != most || bad != api.OK {
		t.Error(to, bad)
	}
	for _, ahead := range []bool{false, true} {
		for _, at := range []int{-1, 9, math.MinInt, math.MaxInt} {
			if to, bad := Cursor(e, at, ahead); to != 0 || bad != api.ErrEdit {
				t.Errorf("%d: %d, %d", at, to, bad)
			}
		}
		wrong := noEdits()
		for _, p := range unfit() {
			wrong = append(wrong, parts{p}, parts{keep(1), p})
		}
		for _, e := range wrong {
			if to, bad := Cursor(e, 0, ahead); to != 0 || bad != api.ErrEdit {
				t.Errorf("Cursor(%v): %d, %d", e, to, bad)
			}
		}
	}
}
